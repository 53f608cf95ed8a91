/-
  The library's insertion of one life into lives of the call's own: at its place; in memory of the call's own. The lives stay below a bound.
-/
import Derived.Test.YtlpedligkofegaaPlain
import Derived.Test.YtlpedligkofegaaMem2
import Derived.Shelf.Spec.SlicesInsert
import Derived.WalkKit
import Derived.ProofKit
import Derived.Handy
import Derived.LoopTactic
import Derived.Below
import Derived.Laws.BitsAllLaws
import Derived.RegionTactic
import Derived.Deep.RegionHeld3
import Derived.Deep.DrawnRows
import Derived.Deep.AppendLies
import Derived.Laws.OwnMore
import Derived.Deep.Onto
import Derived.Deep.QuietTactic
import Derived.BigQuiet
namespace Go.Proofs.Ytlpedligkofegaa.Walks
open Go.RowKit
set_option linter.unusedVariables false
set_option linter.unusedSimpArgs false
attribute [local go_sem ↓] Go.wp_at_zero Go.wp_at_succ

theorem infoLf : (Try.prog.info? 44).map (fun i => (i.zero, i.size, i.bytes)) = some (some (.agg #[.int .i64 0, .int .i64 0, .int .i64 0, .int .i64 0, .int .i64 0, .int .i64 0]), 6, 48) := by kernel_rfl

theorem lcells_len (l : List Lf) : (recs lfC l).length = l.length * 6 := recs_len lf6 l

theorem lcells_take (l : List Lf) (i : Nat) : (recs lfC l).take (i * 6) = recs lfC (l.take i) := recs_take lf6 l i

theorem lcells_drop (l : List Lf) (i : Nat) : (recs lfC l).drop (i * 6) = recs lfC (l.drop i) := recs_drop lf6 l i

theorem one_recs (x : Lf) : recs lfC [x] = (lfC x).map (Value.int .i64) := by simp [recs]

theorem insAt_end {α : Type} (l : List α) (x : α) : insAt l x l.length = l ++ [x] := by simp [insAt]

/-- What an insertion ends in. -/
def Ins (base : Nat) (v : Value) (l : List Lf) (t : Lf) (i : Nat) (w : World) (r : Ending) (w' : World) : Prop :=
  ∃ g cap, r = .returned (.slice (some ⟨g, 0, none⟩) (l.length + 1) cap) ∧ w'.ownsRow base 44 6 (.slice (some ⟨g, 0, none⟩) (l.length + 1) cap) (l.length + 1) (recs lfC (insAt l t i)) ∧ w.grownBy w' v.ownBlock ∧ (v.ownBlock = some g ∨ w.heap.size ≤ g)

set_option maxHeartbeats 4000000 in
set_option maxRecDepth 100000 in
theorem insert_end (base : Nat) (v : Value) (l : List Lf) (x : Lf) (cs : Array Value) (hxs : cs.toList = (lfC x).map (Value.int .i64)) (k : Nat) (w : World) (hown : w.ownsRow base 44 6 v l.length (recs lfC l)) (hbase : base ≤ w.heap.size)
    (hk : w.heap[k]? = some (.cells cs 44 (0, 0))) (hlen : l.length ≤ 1000) :
    Calls Try.prog 51 #[v, .int .i64 l.length, .slice (some ⟨k, 0, none⟩) 1 1] w (Ins base v l x l.length w) := by
  obtain ⟨i0, hi, hz0, hz1, hz2⟩ := info_parts infoLf
  have hnews : ∀ j u, (recs lfC [x])[j]? = some u → w.cell? ((⟨k, 0, none⟩ : Addr).add j) = some u := fun j u hu => by
    have hadd : (⟨k, 0, none⟩ : Addr).add j = ⟨k, j, none⟩ := by unfold Addr.add; split <;> simp_all
    rw [hadd, cell_of_row w k j _ _ (0, 0) hk]
    rw [one_recs, ← hxs] at hu; simpa using hu
  obtain ⟨p, c, rfl⟩ := own_form hown
  have hnc : l.length ≤ c := by
    rcases hown.2 with ⟨h, _⟩ | ⟨g, cap, cur, h, _, _, h2, _⟩
    · simp only [Value.slice.injEq] at h; omega
    · simp only [Value.slice.injEq] at h; omega
  have hcm : c ≤ 9223372036854775807 := by
    rcases hown.2 with ⟨h, _⟩ | ⟨g, cap, cur, h, _, _, _, h2, _⟩
    · simp only [Value.slice.injEq] at h; omega
    · simp only [Value.slice.injEq] at h; unfold maxLen at h2; omega
  by_cases hcl : c = l.length
  · subst hcl
    have HO : Hid (_ ∧ _) := ⟨hown, hnews⟩
    clear hown hnews
    go_enter Try.func51, Try.ntmps51
    go_wp2_with (first | (at_builtin; refine wpList_append_lies _ rfl _ _ 22 rfl base 44 i0 _ 6 48 Try.underlying22 hi hz0 hz1 hz2 rfl (by decide) (.slice p l.length l.length) _ _ rfl HO.out.1 _ 1 1 (recs lfC [x]) rfl rfl HO.out.2 (recs_one _) (by decide) (by unfold maxLen; omega) (by omega) hbase _ rfl ?_; intro g' cap w2 hown2 hg2 hlies hlt2))
    all_goals
      go_ret
      exact ⟨g', cap, rfl, by rw [insAt_end, recs_append]; exact hown2, hg2, hlies.imp id (fun h => by omega)⟩
  · have HO : Hid (_ ∧ _) := ⟨hown, hnews⟩
    clear hown hnews
    go_enter Try.func51, Try.ntmps51
    go_wp2_with (first | (at_builtin; refine wpList_append_lies _ rfl _ _ 22 rfl base 44 i0 _ 6 48 Try.underlying22 hi hz0 hz1 hz2 rfl (by decide) (.slice p l.length c) _ _ rfl HO.out.1 _ 1 1 (recs lfC [x]) rfl rfl HO.out.2 (recs_one _) (by decide) (by unfold maxLen; omega) (by omega) hbase _ rfl ?_; intro g' cap w2 hown2 hg2 hlies hlt2))
    all_goals
      go_ret
      exact ⟨g', cap, rfl, by rw [insAt_end, recs_append]; exact hown2, hg2, hlies.imp id (fun h => by omega)⟩

set_option maxHeartbeats 4000000 in
set_option maxRecDepth 100000 in
theorem insert_grow (base g c : Nat) (l : List Lf) (x : Lf) (cs : Array Value) (hxs : cs.toList = (lfC x).map (Value.int .i64)) (i k : Nat) (w : World) (hown : w.ownsRow base 44 6 (.slice (some ⟨g, 0, none⟩) l.length c) l.length (recs lfC l)) (hbase : base ≤ w.heap.size) (hi : i < l.length) (hroom : c < l.length + 1)
    (hk : w.heap[k]? = some (.cells cs 44 (0, 0))) (hlen : l.length ≤ 1000) :
    Calls Try.prog 51 #[.slice (some ⟨g, 0, none⟩) l.length c, .int .i64 i, .slice (some ⟨k, 0, none⟩) 1 1] w (Ins base (.slice (some ⟨g, 0, none⟩) l.length c) l x i w) := by
  obtain ⟨i0, hif, hz0, hz1, hz2⟩ := info_parts infoLf
  have hcl : c = l.length := by
    rcases hown.2 with ⟨h, _⟩ | ⟨g', cap, cur, h, _, _, h2, _⟩
    · cases h
    · simp only [Value.slice.injEq] at h; omega
  subst hcl
  have hsz : (Try.prog.info? 44).map (·.size) = some 6 := by rw [hif]; simp [hz1]
  have hglt := (hown.lt g rfl).2
  have hklt : k < w.heap.size := (Array.getElem?_eq_some_iff.1 hk).1
  -- the new row
  obtain ⟨cap, zs, w2, hr1, ho2, hzl, hcap, hg2, hs2⟩ := run_append_zeros (P := Try.prog) w 22 3 22 44 i0 _ .i64 6 48 Try.underlying22 Try.underlying3 hif hz0 hz1 hz2 rfl (by decide) base ⟨g, 0, none⟩ i l.length (l.length + 1 - i) (recs lfC (l.take i)) (by rw [lcells_len, List.length_take]; omega)
    (fun j u hu => by
      rw [add_lit0, hown.cellAt j (by have := (List.getElem?_eq_some_iff.1 hu).1; rw [lcells_len, List.length_take] at this; omega)]
      rw [← lcells_take] at hu
      rw [List.getElem?_take] at hu
      split at hu
      · exact hu
      · cases hu) (by omega) (by omega) (by unfold maxLen; omega) (by omega) hbase
  have him : i + (l.length + 1 - i) = l.length + 1 := by omega
  rw [him] at hr1 ho2 hcap
  rw [show ((l.length + 1 - i : Nat) : Int) = (l.length : Int) + 1 - (i : Int) by omega] at hr1
  -- the timer
  obtain ⟨w3, hr2, ho3, hg3⟩ := run_copy_own (P := Try.prog) w2 22 3 44 6 Try.underlying22 hsz base w.heap.size (l.length + 1) cap _ ho2 (i * 6) (l.length + 1 - i) (cap - i) ⟨k, 0, none⟩ 1 1 1 (recs lfC [x]) (by simp only [Nat.min_def]; split <;> omega) rfl (by simp [recs]; omega)
    (fun j u hu => by
      rw [add_lit0, (hg2.cell (a := ⟨k, j, none⟩) (v := u) (by rw [cell_of_row w k j _ _ (0, 0) hk]; rw [one_recs, ← hxs] at hu; simpa using hu) (by simp))]) (recs_one _)
  -- the rest
  obtain ⟨w4, hr3, ho4, hg4⟩ := run_copy_own (P := Try.prog) w3.drew 22 3 44 6 Try.underlying22 hsz base w.heap.size (l.length + 1) cap _ ho3 ((i + 1) * 6) (l.length - i) (cap - (i + 1)) ⟨g, i * 6, none⟩ (l.length - i) (l.length - i) (l.length - i) (recs lfC (l.drop i)) (by simp only [Nat.min_def]; split <;> omega) (by rw [lcells_len, List.length_drop]) (by rw [lcells_len, List.length_drop]; omega)
    (fun j u hu => by
      rw [add_lit]
      have hj := (List.getElem?_eq_some_iff.1 hu).1
      rw [lcells_len, List.length_drop] at hj
      have h1 : w.cell? ⟨g, i * 6 + j, none⟩ = some u := by
        rw [hown.cellAt _ (by omega), ← hu, ← lcells_drop, List.getElem?_drop]
      exact hg3.cell (a := ⟨g, i * 6 + j, none⟩) (hg2.cell h1 (by simp)) (by simp; omega)) (recs_one _)
  have hend : (recs lfC (l.take i) ++ zs).take (i * 6) ++ recs lfC [x] ++ (recs lfC (l.take i) ++ zs).drop (i * 6 + (recs lfC [x]).length) = recs lfC (l.take i ++ [x]) ++ zs.drop 6 := by
    have e0 : (recs lfC (l.take i)).length = i * 6 := by rw [lcells_len, List.length_take]; omega
    rw [← e0, List.take_left, recs_append, List.drop_append]
    simp [recs]
  have hend2 : ∀ ys : List Value, ((recs lfC (l.take i ++ [x]) ++ ys).take ((i + 1) * 6) ++ recs lfC (l.drop i) ++ (recs lfC (l.take i ++ [x]) ++ ys).drop ((i + 1) * 6 + (recs lfC (l.drop i)).length)) = recs lfC (insAt l x i) ++ ys.drop ((l.length - i) * 6) := fun ys => by
    have e0 : (recs lfC (l.take i ++ [x])).length = (i + 1) * 6 := by rw [lcells_len]; simp; omega
    rw [← e0, List.take_left, List.drop_append, lcells_len (l.drop i), List.length_drop, insAt, recs_append, recs_append]
    simp [recs]
  rw [hend, hend2] at ho4
  rw [List.drop_drop, List.drop_eq_nil_of_le (by rw [hzl]; omega), List.append_nil] at ho4
  have hgw : w.grownBy w4 (Value.slice (some ⟨g, 0, none⟩) l.length l.length).ownBlock :=
    ⟨hg4.os.trans (hg3.os.trans hg2.os), hg4.tape.trans (hg3.tape.trans hg2.tape), hg4.output.trans (hg3.output.trans hg2.output), Nat.le_trans hg2.size (Nat.le_trans hg3.size hg4.size), fun j hj _ => by
      rw [hg4.block j (Nat.lt_of_lt_of_le hj (Nat.le_trans hg2.size hg3.size)) (by simp; omega)]
      show w3.heap[j]? = _
      rw [hg3.block j (Nat.lt_of_lt_of_le hj hg2.size) (by simp; omega), hg2.block j hj (by simp)]⟩
  have HO : Hid (_ ∧ _ ∧ _ ∧ _ ∧ _) := ⟨hr1, hr2, hr3, ho4, hgw⟩
  have hI1 : (i : Int) ≤ (l.length : Int) := by omega
  have hI2 : (i : Int) < (l.length : Int) + 1 := by omega
  have hne1 : ¬ cap = i := by omega
  have hne2 : ¬ cap = i + 1 := by omega
  have hne3 : ¬ l.length = i := by omega
  have hne4 : ((i : Int) == (l.length : Int)) = false := by simp; omega
  clear hr1 ho2 ho3 ho4 hg2 hg3 hg4 hzl hown hk hend hend2 hgw
  go_enter Try.func51, Try.ntmps51
  go_wp2_with (first | (at_builtin; refine Lib.wpList_append_run _ rfl _ _ _ _ rfl _ _ rfl rfl _ _ HO.out.1 ?_))
  go_region
  go_wp2
  go_ret
  exact ⟨w.heap.size, cap, rfl, HO.out.2.2.2.1, HO.out.2.2.2.2, .inr (Nat.le_refl _)⟩

set_option maxHeartbeats 4000000 in
set_option maxRecDepth 100000 in
theorem insert_shift (base g c : Nat) (l : List Lf) (x : Lf) (cs : Array Value) (hxs : cs.toList = (lfC x).map (Value.int .i64)) (i k : Nat) (w : World) (hown : w.ownsRow base 44 6 (.slice (some ⟨g, 0, none⟩) l.length c) l.length (recs lfC l)) (hbase : base ≤ w.heap.size) (hi : i < l.length) (hroom : l.length + 1 ≤ c) (hkg : k ≠ g)
    (hk : w.heap[k]? = some (.cells cs 44 (0, 0))) (hlen : l.length ≤ 1000) :
    Calls Try.prog 51 #[.slice (some ⟨g, 0, none⟩) l.length c, .int .i64 i, .slice (some ⟨k, 0, none⟩) 1 1] w (Ins base (.slice (some ⟨g, 0, none⟩) l.length c) l x i w) := by
  obtain ⟨i0, hif, hz0, hz1, hz2⟩ := info_parts infoLf
  have hsz : (Try.prog.info? 44).map (·.size) = some 6 := by rw [hif]; simp [hz1]
  -- the row with one place more
  obtain ⟨cur, hgc, hcm, hcs, htk, hbg⟩ : ∃ cur : Array Value, w.heap[g]? = some (.cells cur 44 (0, 0)) ∧ c ≤ maxLen ∧ cur.size = c * 6 ∧ cur.toList.take (l.length * 6) = recs lfC l ∧ base ≤ g := by
    rcases hown.2 with ⟨h, _⟩ | ⟨g', cap, cur, h, hb, hg, h2, h3, h4, h5⟩
    · cases h
    · simp only [Value.slice.injEq, Option.some.injEq, Addr.mk.injEq, and_true, true_and] at h
      obtain ⟨rfl, rfl⟩ := h
      exact ⟨cur, hg, h3, h4, h5, hb⟩
  have hown1 : w.ownsRow base 44 6 (.slice (some ⟨g, 0, none⟩) (l.length + 1) c) (l.length + 1) (cur.toList.take ((l.length + 1) * 6)) :=
    ⟨by simp only [List.length_take, Array.length_toList, hcs]; omega, .inr ⟨g, c, cur, rfl, hbg, hgc, hroom, hcm, hcs, rfl⟩⟩
  have hx : cur.toList.take ((l.length + 1) * 6) = recs lfC l ++ (cur.toList.drop (l.length * 6)).take 6 := by
    rw [← htk, show (l.length + 1) * 6 = l.length * 6 + 6 by omega, List.take_add]
  rw [hx] at hown1
  have hspl : ((cur.toList.drop (l.length * 6)).take 6).length = 6 := by simp only [List.length_take, List.length_drop, Array.length_toList, hcs]; omega
  generalize (cur.toList.drop (l.length * 6)).take 6 = sp at hown1 hspl
  have hglt := (hown.lt g rfl).2
  -- those behind
  obtain ⟨w2, hr1, ho2, hg2⟩ := run_copy_own (P := Try.prog) w.drew 22 3 44 6 Try.underlying22 hsz base g (l.length + 1) c _ hown1 ((i + 1) * 6) (l.length - i) (c - (i + 1)) ⟨g, i * 6, none⟩ (l.length + 1 - i) (c - i) (l.length - i) (recs lfC (l.drop i)) (by simp only [Nat.min_def]; split <;> omega) (by rw [lcells_len, List.length_drop]) (by rw [lcells_len, List.length_drop]; omega)
    (fun j u hu => by
      rw [add_lit]
      have hj := (List.getElem?_eq_some_iff.1 hu).1
      rw [lcells_len, List.length_drop] at hj
      have h1 : w.cell? ⟨g, i * 6 + j, none⟩ = some u := by
        rw [hown.cellAt _ (by omega), ← hu, ← lcells_drop, List.getElem?_drop]
      exact h1) (recs_one _)
  -- the timer
  obtain ⟨w3, hr2, ho3, hg3⟩ := run_copy_own (P := Try.prog) w2 22 3 44 6 Try.underlying22 hsz base g (l.length + 1) c _ ho2 (i * 6) (l.length + 1 - i) (c - i) ⟨k, 0, none⟩ 1 1 1 (recs lfC [x]) (by simp only [Nat.min_def]; split <;> omega) rfl (by simp [recs]; omega)
    (fun j u hu => by
      rw [add_lit0, (hg2.cell (a := ⟨k, j, none⟩) (v := u) (show w.cell? _ = _ by rw [cell_of_row w k j _ _ (0, 0) hk]; rw [one_recs, ← hxs] at hu; simpa using hu) (by simp; omega))]) (recs_one _)
  have hend : ∀ xs : List Value, xs = (recs lfC l ++ sp).take ((i + 1) * 6) ++ recs lfC (l.drop i) ++ (recs lfC l ++ sp).drop ((i + 1) * 6 + (recs lfC (l.drop i)).length) → xs.take (i * 6) ++ recs lfC [x] ++ xs.drop (i * 6 + (recs lfC [x]).length) = recs lfC (insAt l x i) := fun xs hxs => by
    have e1 : (recs lfC l ++ sp).drop ((i + 1) * 6 + (recs lfC (l.drop i)).length) = [] := List.drop_eq_nil_of_le (by rw [List.length_append, lcells_len, lcells_len, List.length_drop, hspl]; omega)
    have e2 : (recs lfC l ++ sp).take ((i + 1) * 6) = recs lfC (l.take (i + 1)) := by
      rw [List.take_append_of_le_length (by rw [lcells_len]; omega), lcells_take]
    rw [e1, e2, List.append_nil] at hxs
    have e3 : (recs lfC (l.take (i + 1))).length = (i + 1) * 6 := by rw [lcells_len, List.length_take]; omega
    have e4 : xs.take (i * 6) = recs lfC (l.take i) := by
      rw [hxs, List.take_append_of_le_length (by rw [e3]; omega), lcells_take, List.take_take, show min i (i + 1) = i by omega]
    have e5 : xs.drop (i * 6 + (recs lfC [x]).length) = recs lfC (l.drop i) := by
      rw [hxs, show i * 6 + (recs lfC [x]).length = (recs lfC (l.take (i + 1))).length by rw [e3]; simp [recs]; omega, List.drop_left]
    rw [e4, e5, insAt, recs_append]
    simp [recs]
  rw [hend _ rfl] at ho3
  have hgw : w.grownBy w3 (Value.slice (some ⟨g, 0, none⟩) l.length c).ownBlock :=
    ⟨hg3.os.trans hg2.os, hg3.tape.trans hg2.tape, hg3.output.trans hg2.output, Nat.le_trans hg2.size hg3.size, fun j hj hne => by
      rw [hg3.block j (Nat.lt_of_lt_of_le hj hg2.size) hne]
      exact hg2.block j hj hne⟩
  have hcz : cs.size = 6 := by rw [← Array.length_toList, hxs]; rfl
  have hov : ∀ lb cb, (callFunc 56 #[.slice (some ⟨k, 0, none⟩) 1 1, .slice (some ⟨g, (i + 1) * 6, none⟩) lb cb]).run Try.prog w = .ok (.value (.bool false)) w := fun lb cb => by
    rw [run_callFunc_extern Try.func56 (by kernel_rfl) (by kernel_rfl) (by kernel_rfl) (e := Extern.SlicesOverlaps.overlaps #[22, 22] #[4]) (by kernel_rfl),
      Lib.run_overlaps_apart w 22 4 44 Try.underlying22 6 Try.sizeOf44 ⟨k, 0, none⟩ ⟨g, (i + 1) * 6, none⟩ 1 1 lb cb hkg 44 44 6 cur.size (by simp [World.shape?, hk, hcz]) (by simp [World.shape?, hgc]) (by omega) (by simp [World.frozen?, hk]) (by simp [World.frozen?, hk])]
    rfl
  have HO : Hid (_ ∧ _) := ⟨ho3, hgw⟩
  have hI1 : (i : Int) ≤ (l.length : Int) := by omega
  have hI2 : (i : Int) ≤ (l.length : Int) + 1 := by omega
  have hne1 : ¬ c = i := by omega
  have hne2 : ¬ c = i + 1 := by omega
  have hne4 : ((i : Int) == (l.length : Int)) = false := by simp; omega
  have hrm : (l.length : Int) + 1 ≤ (c : Int) := by omega
  unfold maxLen at hcm
  clear ho2 ho3 hg2 hg3 hown hown1 hk hend hgw hgc htk hx hspl
  go_enter Try.func51, Try.ntmps51
  go_wp2_with (simp only [hov])
  go_region
  go_wp2
  go_ret
  exact ⟨g, c, rfl, HO.out.1, HO.out.2, .inl rfl⟩

theorem insert_any (base : Nat) (v : Value) (l : List Lf) (x : Lf) (cs : Array Value) (hxs : cs.toList = (lfC x).map (Value.int .i64)) (i k : Nat) (w : World) (hown : w.ownsRow base 44 6 v l.length (recs lfC l)) (hbase : base ≤ w.heap.size) (hi : i ≤ l.length) (hkv : v.ownBlock ≠ some k)
    (hk : w.heap[k]? = some (.cells cs 44 (0, 0))) (hlen : l.length ≤ 1000) :
    Calls Try.prog 51 #[v, .int .i64 i, .slice (some ⟨k, 0, none⟩) 1 1] w (Ins base v l x i w) := by
  rcases Nat.lt_or_ge i l.length with hlt | hge
  · obtain ⟨g, c, rfl, _⟩ := hown.form (by omega)
    rcases Nat.lt_or_ge c (l.length + 1) with h | h
    · exact insert_grow base g c l x cs hxs i k w hown hbase hlt h hk hlen
    · exact insert_shift base g c l x cs hxs i k w hown hbase hlt h (fun e => hkv (by rw [e]; rfl)) hk hlen
  · obtain rfl : i = l.length := by omega
    exact insert_end base v l x cs hxs k w hown hbase hk hlen
end Go.Proofs.Ytlpedligkofegaa.Walks
