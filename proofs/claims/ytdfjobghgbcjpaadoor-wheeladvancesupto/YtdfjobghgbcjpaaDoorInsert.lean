/-
  The library's insertion of one timer into a list of the call's own: at its place; in memory of the call's own. The list stays below the model's bound.
-/
import Derived.Test.YtdfjobghgbcjpaaDoorMem2
import Derived.Shelf.Spec.SlicesInsert
import Derived.WalkKit
import Derived.ProofKit
import Derived.Handy
import Derived.LoopTactic
import Derived.Below
import Derived.Laws.BitsAllLaws
import Derived.RegionTactic
import Derived.Deep.RegionHeld3
import Derived.Deep.DrawnRows
import Derived.Deep.AppendLies
import Derived.Laws.OwnMore
import Derived.Deep.Onto
import Derived.Deep.QuietTactic
import Derived.BigQuiet
namespace Go.Proofs.YtdfjobghgbcjpaaDoor.Walks
open Go.RowKit
set_option linter.unusedVariables false
set_option linter.unusedSimpArgs false
attribute [local go_sem ↓] Go.wp_at_zero Go.wp_at_succ

/-- What an insertion ends in. -/
def Ins (base : Nat) (v : Value) (l : List Tm) (t : Tm) (i : Nat) (w : World) (r : Ending) (w' : World) : Prop :=
  ∃ g cap, r = .returned (.slice (some ⟨g, 0, none⟩) (l.length + 1) cap) ∧ w'.ownsRow base 45 2 (.slice (some ⟨g, 0, none⟩) (l.length + 1) cap) (l.length + 1) (tcells (insAt l t i)) ∧ w.grownBy w' v.ownBlock ∧ (v.ownBlock = some g ∨ w.heap.size ≤ g)

theorem tcells_two (l m : List Tm) (t : Tm) : tcells (l ++ t :: m) = tcells l ++ ([.int .i64 t.1, .int .i64 t.2] ++ tcells m) := by rw [tcells_append]; rfl

theorem tcells_take : ∀ (l : List Tm) (i : Nat), (tcells l).take (i * 2) = tcells (l.take i)
  | [], i => by simp [tcells]
  | t :: l, 0 => by simp [tcells]
  | t :: l, i + 1 => by rw [show (i + 1) * 2 = i * 2 + 1 + 1 by omega]; simp [tcells, tcells_take l i]

theorem tcells_drop : ∀ (l : List Tm) (i : Nat), (tcells l).drop (i * 2) = tcells (l.drop i)
  | [], i => by simp [tcells]
  | t :: l, 0 => by simp [tcells]
  | t :: l, i + 1 => by rw [show (i + 1) * 2 = i * 2 + 1 + 1 by omega]; simp [tcells, tcells_drop l i]

set_option maxHeartbeats 4000000 in
set_option maxRecDepth 100000 in
theorem insert_end (base : Nat) (v : Value) (l : List Tm) (ta td : Int) (k : Nat) (w : World) (hown : w.ownsRow base 45 2 v l.length (tcells l)) (hbase : base ≤ w.heap.size)
    (hk : w.heap[k]? = some (.cells #[.int .i64 ta, .int .i64 td] 45 (0, 0))) (hlen : l.length ≤ 1048577) :
    Calls Tryd.prog 33 #[v, .int .i64 l.length, .slice (some ⟨k, 0, none⟩) 1 1] w (Ins base v l (ta, td) l.length w) := by
  obtain ⟨i0, hi, hz0, hz1, hz2⟩ := info_parts infoTm
  have hnews : ∀ j u, (tcells [(ta, td)])[j]? = some u → w.cell? ((⟨k, 0, none⟩ : Addr).add j) = some u := fun j u hu => by
    have hadd : (⟨k, 0, none⟩ : Addr).add j = ⟨k, j, none⟩ := by unfold Addr.add; split <;> simp_all
    rw [hadd, cell_of_row w k j _ _ (0, 0) hk]
    simpa [tcells] using hu
  obtain ⟨p, c, rfl⟩ := own_form hown
  have hnc : l.length ≤ c := by
    rcases hown.2 with ⟨h, _⟩ | ⟨g, cap, cur, h, _, _, h2, _⟩
    · simp only [Value.slice.injEq] at h; omega
    · simp only [Value.slice.injEq] at h; omega
  have hcm : c ≤ 9223372036854775807 := by
    rcases hown.2 with ⟨h, _⟩ | ⟨g, cap, cur, h, _, _, _, h2, _⟩
    · simp only [Value.slice.injEq] at h; omega
    · simp only [Value.slice.injEq] at h; unfold maxLen at h2; omega
  by_cases hcl : c = l.length
  · subst hcl
    have HO : Hid (_ ∧ _) := ⟨hown, hnews⟩
    clear hown hnews
    go_enter Tryd.func33, Tryd.ntmps33
    go_wp2_with (first | (at_builtin; refine wpList_append_lies _ rfl _ _ 38 rfl base 45 i0 _ 2 16 Tryd.underlying38 hi hz0 hz1 hz2 rfl (by decide) (.slice p l.length l.length) _ _ rfl HO.out.1 _ 1 1 (tcells [(ta, td)]) rfl rfl HO.out.2 (tcells_one _) (by decide) (by unfold maxLen; omega) (by omega) hbase _ rfl ?_; intro g' cap w2 hown2 hg2 hlies hlt2))
    all_goals
      go_ret
      exact ⟨g', cap, rfl, by rw [insAt_end, tcells_append]; exact hown2, hg2, hlies.imp id (fun h => by omega)⟩
  · have HO : Hid (_ ∧ _) := ⟨hown, hnews⟩
    clear hown hnews
    go_enter Tryd.func33, Tryd.ntmps33
    go_wp2_with (first | (at_builtin; refine wpList_append_lies _ rfl _ _ 38 rfl base 45 i0 _ 2 16 Tryd.underlying38 hi hz0 hz1 hz2 rfl (by decide) (.slice p l.length c) _ _ rfl HO.out.1 _ 1 1 (tcells [(ta, td)]) rfl rfl HO.out.2 (tcells_one _) (by decide) (by unfold maxLen; omega) (by omega) hbase _ rfl ?_; intro g' cap w2 hown2 hg2 hlies hlt2))
    all_goals
      go_ret
      exact ⟨g', cap, rfl, by rw [insAt_end, tcells_append]; exact hown2, hg2, hlies.imp id (fun h => by omega)⟩

theorem add_lit0 (g j : Nat) : (⟨g, 0, none⟩ : Addr).add j = ⟨g, j, none⟩ := by unfold Addr.add; split <;> simp_all

theorem add_lit (g o j : Nat) : (⟨g, o, none⟩ : Addr).add j = ⟨g, o + j, none⟩ := by unfold Addr.add; split <;> simp_all

set_option maxHeartbeats 4000000 in
set_option maxRecDepth 100000 in
theorem insert_grow (base g c : Nat) (l : List Tm) (ta td : Int) (i k : Nat) (w : World) (hown : w.ownsRow base 45 2 (.slice (some ⟨g, 0, none⟩) l.length c) l.length (tcells l)) (hbase : base ≤ w.heap.size) (hi : i < l.length) (hroom : c < l.length + 1)
    (hk : w.heap[k]? = some (.cells #[.int .i64 ta, .int .i64 td] 45 (0, 0))) (hlen : l.length ≤ 1048577) :
    Calls Tryd.prog 33 #[.slice (some ⟨g, 0, none⟩) l.length c, .int .i64 i, .slice (some ⟨k, 0, none⟩) 1 1] w (Ins base (.slice (some ⟨g, 0, none⟩) l.length c) l (ta, td) i w) := by
  obtain ⟨i0, hif, hz0, hz1, hz2⟩ := info_parts infoTm
  have hcl : c = l.length := by
    rcases hown.2 with ⟨h, _⟩ | ⟨g', cap, cur, h, _, _, h2, _⟩
    · cases h
    · simp only [Value.slice.injEq] at h; omega
  subst hcl
  have hsz : (Tryd.prog.info? 45).map (·.size) = some 2 := by rw [hif]; simp [hz1]
  have hglt := (hown.lt g rfl).2
  have hklt : k < w.heap.size := (Array.getElem?_eq_some_iff.1 hk).1
  -- the new row
  obtain ⟨cap, zs, w2, hr1, ho2, hzl, hcap, hg2, hs2⟩ := run_append_zeros (P := Tryd.prog) w 38 3 38 45 i0 _ .i64 2 16 Tryd.underlying38 Tryd.underlying3 hif hz0 hz1 hz2 rfl (by decide) base ⟨g, 0, none⟩ i l.length (l.length + 1 - i) (tcells (l.take i)) (by rw [tcells_len, List.length_take]; omega)
    (fun j u hu => by
      rw [add_lit0, hown.cellAt j (by have := (List.getElem?_eq_some_iff.1 hu).1; rw [tcells_len, List.length_take] at this; omega)]
      rw [← tcells_take] at hu
      rw [List.getElem?_take] at hu
      split at hu
      · exact hu
      · cases hu) (by omega) (by omega) (by unfold maxLen; omega) (by omega) hbase
  have him : i + (l.length + 1 - i) = l.length + 1 := by omega
  rw [him] at hr1 ho2 hcap
  rw [show ((l.length + 1 - i : Nat) : Int) = (l.length : Int) + 1 - (i : Int) by omega] at hr1
  -- the timer
  obtain ⟨w3, hr2, ho3, hg3⟩ := run_copy_own (P := Tryd.prog) w2 38 3 45 2 Tryd.underlying38 hsz base w.heap.size (l.length + 1) cap _ ho2 (i * 2) (l.length + 1 - i) (cap - i) ⟨k, 0, none⟩ 1 1 1 (tcells [(ta, td)]) (by simp only [Nat.min_def]; split <;> omega) rfl (by simp [tcells]; omega)
    (fun j u hu => by
      rw [add_lit0, (hg2.cell (a := ⟨k, j, none⟩) (v := u) (by rw [cell_of_row w k j _ _ (0, 0) hk]; simpa [tcells] using hu) (by simp))]) (tcells_one _)
  -- the rest
  obtain ⟨w4, hr3, ho4, hg4⟩ := run_copy_own (P := Tryd.prog) w3.drew 38 3 45 2 Tryd.underlying38 hsz base w.heap.size (l.length + 1) cap _ ho3 ((i + 1) * 2) (l.length - i) (cap - (i + 1)) ⟨g, i * 2, none⟩ (l.length - i) (l.length - i) (l.length - i) (tcells (l.drop i)) (by simp only [Nat.min_def]; split <;> omega) (by rw [tcells_len, List.length_drop]) (by rw [tcells_len, List.length_drop]; omega)
    (fun j u hu => by
      rw [add_lit]
      have hj := (List.getElem?_eq_some_iff.1 hu).1
      rw [tcells_len, List.length_drop] at hj
      have h1 : w.cell? ⟨g, i * 2 + j, none⟩ = some u := by
        rw [hown.cellAt _ (by omega), ← hu, ← tcells_drop, List.getElem?_drop]
      exact hg3.cell (a := ⟨g, i * 2 + j, none⟩) (hg2.cell h1 (by simp)) (by simp; omega)) (tcells_one _)
  have hend : (tcells (l.take i) ++ zs).take (i * 2) ++ tcells [(ta, td)] ++ (tcells (l.take i) ++ zs).drop (i * 2 + (tcells [(ta, td)]).length) = tcells (l.take i ++ [(ta, td)]) ++ zs.drop 2 := by
    have e0 : (tcells (l.take i)).length = i * 2 := by rw [tcells_len, List.length_take]; omega
    rw [← e0, List.take_left, tcells_append, List.drop_append]
    simp [tcells]
  have hend2 : ∀ ys : List Value, ((tcells (l.take i ++ [(ta, td)]) ++ ys).take ((i + 1) * 2) ++ tcells (l.drop i) ++ (tcells (l.take i ++ [(ta, td)]) ++ ys).drop ((i + 1) * 2 + (tcells (l.drop i)).length)) = tcells (insAt l (ta, td) i) ++ ys.drop ((l.length - i) * 2) := fun ys => by
    have e0 : (tcells (l.take i ++ [(ta, td)])).length = (i + 1) * 2 := by rw [tcells_len]; simp; omega
    rw [← e0, List.take_left, List.drop_append, tcells_len (l.drop i), List.length_drop, insAt, tcells_append, tcells_append]
    simp [tcells]
  rw [hend, hend2] at ho4
  rw [List.drop_drop, List.drop_eq_nil_of_le (by rw [hzl]; omega), List.append_nil] at ho4
  have hgw : w.grownBy w4 (Value.slice (some ⟨g, 0, none⟩) l.length l.length).ownBlock :=
    ⟨hg4.os.trans (hg3.os.trans hg2.os), hg4.tape.trans (hg3.tape.trans hg2.tape), hg4.output.trans (hg3.output.trans hg2.output), Nat.le_trans hg2.size (Nat.le_trans hg3.size hg4.size), fun j hj _ => by
      rw [hg4.block j (Nat.lt_of_lt_of_le hj (Nat.le_trans hg2.size hg3.size)) (by simp; omega)]
      show w3.heap[j]? = _
      rw [hg3.block j (Nat.lt_of_lt_of_le hj hg2.size) (by simp; omega), hg2.block j hj (by simp)]⟩
  have HO : Hid (_ ∧ _ ∧ _ ∧ _ ∧ _) := ⟨hr1, hr2, hr3, ho4, hgw⟩
  have hI1 : (i : Int) ≤ (l.length : Int) := by omega
  have hI2 : (i : Int) < (l.length : Int) + 1 := by omega
  have hne1 : ¬ cap = i := by omega
  have hne2 : ¬ cap = i + 1 := by omega
  have hne3 : ¬ l.length = i := by omega
  have hne4 : ((i : Int) == (l.length : Int)) = false := by simp; omega
  clear hr1 ho2 ho3 ho4 hg2 hg3 hg4 hzl hown hk hend hend2 hgw
  go_enter Tryd.func33, Tryd.ntmps33
  go_wp2_with (first | (at_builtin; refine Lib.wpList_append_run _ rfl _ _ _ _ rfl _ _ rfl rfl _ _ HO.out.1 ?_))
  go_region
  go_wp2
  go_ret
  exact ⟨w.heap.size, cap, rfl, HO.out.2.2.2.1, HO.out.2.2.2.2, .inr (Nat.le_refl _)⟩

set_option maxHeartbeats 4000000 in
set_option maxRecDepth 100000 in
theorem insert_shift (base g c : Nat) (l : List Tm) (ta td : Int) (i k : Nat) (w : World) (hown : w.ownsRow base 45 2 (.slice (some ⟨g, 0, none⟩) l.length c) l.length (tcells l)) (hbase : base ≤ w.heap.size) (hi : i < l.length) (hroom : l.length + 1 ≤ c) (hkg : k ≠ g)
    (hk : w.heap[k]? = some (.cells #[.int .i64 ta, .int .i64 td] 45 (0, 0))) (hlen : l.length ≤ 1048577) :
    Calls Tryd.prog 33 #[.slice (some ⟨g, 0, none⟩) l.length c, .int .i64 i, .slice (some ⟨k, 0, none⟩) 1 1] w (Ins base (.slice (some ⟨g, 0, none⟩) l.length c) l (ta, td) i w) := by
  obtain ⟨i0, hif, hz0, hz1, hz2⟩ := info_parts infoTm
  have hsz : (Tryd.prog.info? 45).map (·.size) = some 2 := by rw [hif]; simp [hz1]
  -- the row with one place more
  obtain ⟨cur, hgc, hcm, hcs, htk, hbg⟩ : ∃ cur : Array Value, w.heap[g]? = some (.cells cur 45 (0, 0)) ∧ c ≤ maxLen ∧ cur.size = c * 2 ∧ cur.toList.take (l.length * 2) = tcells l ∧ base ≤ g := by
    rcases hown.2 with ⟨h, _⟩ | ⟨g', cap, cur, h, hb, hg, h2, h3, h4, h5⟩
    · cases h
    · simp only [Value.slice.injEq, Option.some.injEq, Addr.mk.injEq, and_true, true_and] at h
      obtain ⟨rfl, rfl⟩ := h
      exact ⟨cur, hg, h3, h4, h5, hb⟩
  have hown1 : w.ownsRow base 45 2 (.slice (some ⟨g, 0, none⟩) (l.length + 1) c) (l.length + 1) (cur.toList.take ((l.length + 1) * 2)) :=
    ⟨by simp only [List.length_take, Array.length_toList, hcs]; omega, .inr ⟨g, c, cur, rfl, hbg, hgc, hroom, hcm, hcs, rfl⟩⟩
  have hx : cur.toList.take ((l.length + 1) * 2) = tcells l ++ (cur.toList.drop (l.length * 2)).take 2 := by
    rw [← htk, show (l.length + 1) * 2 = l.length * 2 + 2 by omega, List.take_add]
  rw [hx] at hown1
  have hspl : ((cur.toList.drop (l.length * 2)).take 2).length = 2 := by simp only [List.length_take, List.length_drop, Array.length_toList, hcs]; omega
  generalize (cur.toList.drop (l.length * 2)).take 2 = sp at hown1 hspl
  have hglt := (hown.lt g rfl).2
  -- those behind
  obtain ⟨w2, hr1, ho2, hg2⟩ := run_copy_own (P := Tryd.prog) w.drew 38 3 45 2 Tryd.underlying38 hsz base g (l.length + 1) c _ hown1 ((i + 1) * 2) (l.length - i) (c - (i + 1)) ⟨g, i * 2, none⟩ (l.length + 1 - i) (c - i) (l.length - i) (tcells (l.drop i)) (by simp only [Nat.min_def]; split <;> omega) (by rw [tcells_len, List.length_drop]) (by rw [tcells_len, List.length_drop]; omega)
    (fun j u hu => by
      rw [add_lit]
      have hj := (List.getElem?_eq_some_iff.1 hu).1
      rw [tcells_len, List.length_drop] at hj
      have h1 : w.cell? ⟨g, i * 2 + j, none⟩ = some u := by
        rw [hown.cellAt _ (by omega), ← hu, ← tcells_drop, List.getElem?_drop]
      exact h1) (tcells_one _)
  -- the timer
  obtain ⟨w3, hr2, ho3, hg3⟩ := run_copy_own (P := Tryd.prog) w2 38 3 45 2 Tryd.underlying38 hsz base g (l.length + 1) c _ ho2 (i * 2) (l.length + 1 - i) (c - i) ⟨k, 0, none⟩ 1 1 1 (tcells [(ta, td)]) (by simp only [Nat.min_def]; split <;> omega) rfl (by simp [tcells]; omega)
    (fun j u hu => by
      rw [add_lit0, (hg2.cell (a := ⟨k, j, none⟩) (v := u) (show w.cell? _ = _ by rw [cell_of_row w k j _ _ (0, 0) hk]; simpa [tcells] using hu) (by simp; omega))]) (tcells_one _)
  have hend : ∀ xs : List Value, xs = (tcells l ++ sp).take ((i + 1) * 2) ++ tcells (l.drop i) ++ (tcells l ++ sp).drop ((i + 1) * 2 + (tcells (l.drop i)).length) → xs.take (i * 2) ++ tcells [(ta, td)] ++ xs.drop (i * 2 + (tcells [(ta, td)]).length) = tcells (insAt l (ta, td) i) := fun xs hxs => by
    have e1 : (tcells l ++ sp).drop ((i + 1) * 2 + (tcells (l.drop i)).length) = [] := List.drop_eq_nil_of_le (by rw [List.length_append, tcells_len, tcells_len, List.length_drop, hspl]; omega)
    have e2 : (tcells l ++ sp).take ((i + 1) * 2) = tcells (l.take (i + 1)) := by
      rw [List.take_append_of_le_length (by rw [tcells_len]; omega), tcells_take]
    rw [e1, e2, List.append_nil] at hxs
    have e3 : (tcells (l.take (i + 1))).length = (i + 1) * 2 := by rw [tcells_len, List.length_take]; omega
    have e4 : xs.take (i * 2) = tcells (l.take i) := by
      rw [hxs, List.take_append_of_le_length (by rw [e3]; omega), tcells_take, List.take_take, show min i (i + 1) = i by omega]
    have e5 : xs.drop (i * 2 + (tcells [(ta, td)]).length) = tcells (l.drop i) := by
      rw [hxs, show i * 2 + (tcells [(ta, td)]).length = (tcells (l.take (i + 1))).length by rw [e3]; simp [tcells]; omega, List.drop_left]
    rw [e4, e5, insAt, tcells_append]
    simp [tcells]
  rw [hend _ rfl] at ho3
  have hgw : w.grownBy w3 (Value.slice (some ⟨g, 0, none⟩) l.length c).ownBlock :=
    ⟨hg3.os.trans hg2.os, hg3.tape.trans hg2.tape, hg3.output.trans hg2.output, Nat.le_trans hg2.size hg3.size, fun j hj hne => by
      rw [hg3.block j (Nat.lt_of_lt_of_le hj hg2.size) hne]
      exact hg2.block j hj hne⟩
  have hov : ∀ lb cb, (callFunc 44 #[.slice (some ⟨k, 0, none⟩) 1 1, .slice (some ⟨g, (i + 1) * 2, none⟩) lb cb]).run Tryd.prog w = .ok (.value (.bool false)) w := fun lb cb => by
    rw [run_callFunc_extern Tryd.func44 (by kernel_rfl) (by kernel_rfl) (by kernel_rfl) (e := Extern.SlicesOverlaps.overlaps #[38, 38] #[4]) (by kernel_rfl),
      Lib.run_overlaps_apart w 38 4 45 Tryd.underlying38 2 Tryd.sizeOf45 ⟨k, 0, none⟩ ⟨g, (i + 1) * 2, none⟩ 1 1 lb cb hkg 45 45 2 cur.size (by simp [World.shape?, hk]) (by simp [World.shape?, hgc]) (by omega) (by simp [World.frozen?, hk]) (by simp [World.frozen?, hk])]
    rfl
  have HO : Hid (_ ∧ _) := ⟨ho3, hgw⟩
  have hI1 : (i : Int) ≤ (l.length : Int) := by omega
  have hI2 : (i : Int) ≤ (l.length : Int) + 1 := by omega
  have hne1 : ¬ c = i := by omega
  have hne2 : ¬ c = i + 1 := by omega
  have hne4 : ((i : Int) == (l.length : Int)) = false := by simp; omega
  have hrm : (l.length : Int) + 1 ≤ (c : Int) := by omega
  unfold maxLen at hcm
  clear ho2 ho3 hg2 hg3 hown hown1 hk hend hgw hgc htk hx hspl
  go_enter Tryd.func33, Tryd.ntmps33
  go_wp2_with (simp only [hov])
  go_region
  go_wp2
  go_ret
  exact ⟨g, c, rfl, HO.out.1, HO.out.2, .inl rfl⟩

theorem insert_any (base : Nat) (v : Value) (l : List Tm) (ta td : Int) (i k : Nat) (w : World) (hown : w.ownsRow base 45 2 v l.length (tcells l)) (hbase : base ≤ w.heap.size) (hi : i ≤ l.length) (hkv : v.ownBlock ≠ some k)
    (hk : w.heap[k]? = some (.cells #[.int .i64 ta, .int .i64 td] 45 (0, 0))) (hlen : l.length ≤ 1048577) :
    Calls Tryd.prog 33 #[v, .int .i64 i, .slice (some ⟨k, 0, none⟩) 1 1] w (Ins base v l (ta, td) i w) := by
  rcases Nat.lt_or_ge i l.length with hlt | hge
  · obtain ⟨g, c, rfl, _⟩ := hown.form (by omega)
    rcases Nat.lt_or_ge c (l.length + 1) with h | h
    · exact insert_grow base g c l ta td i k w hown hbase hlt h hk hlen
    · exact insert_shift base g c l ta td i k w hown hbase hlt h (fun e => hkv (by rw [e]; rfl)) hk hlen
  · obtain rfl : i = l.length := by omega
    exact insert_end base v l ta td k w hown hbase hk hlen
end Go.Proofs.YtdfjobghgbcjpaaDoor.Walks
