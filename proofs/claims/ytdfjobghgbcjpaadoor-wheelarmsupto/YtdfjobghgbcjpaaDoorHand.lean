/-
  A list's timers are handed on to their places by now. The wheel at work is whole; the lists are in order, no number stands twice.
-/
import Derived.Test.YtdfjobghgbcjpaaDoorArm
import Derived.Test.YtdfjobghgbcjpaaDoorBegun
import Derived.WalkKit
import Derived.ProofKit
import Derived.Handy
import Derived.LoopTactic
import Derived.Below
import Derived.Laws.BitsAllLaws
import Derived.RegionTactic
import Derived.Deep.RegionHeld3
import Derived.Deep.DrawnRows
import Derived.Deep.AppendLies
import Derived.Laws.OwnMore
import Derived.Deep.Onto
import Derived.Deep.QuietTactic
import Derived.BigQuiet
namespace Go.Proofs.YtdfjobghgbcjpaaDoor.Walks
open Go.RowKit
set_option linter.unusedVariables false
set_option linter.unusedSimpArgs false
attribute [local go_sem ↓] Go.wp_at_zero Go.wp_at_succ
open Go.Sort (grow grow_empty grow_grow alloc_eq_grow cell?_grow heap_grow_old)

/-- In order, no number twice. -/
structure Srt (ls : List (List Tm)) : Prop where
  len : ls.length = 25
  ord : ∀ l ∈ ls, l.Pairwise (fun a b => cmpT a b < 0)
  ids : (ls.flatten.map (·.2)).Nodup

theorem Ok.srt {now : Int} {ls : List (List Tm)} (h : Ok now ls) : Srt ls := ⟨h.len, h.ord, h.ids⟩

theorem addT_eq (ls : List (List Tm)) (now : Int) (t : Tm) (i : Nat) (hi : placeOf t.1 now = (i : Int)) : addT ls now t = ls.set i (insAt (ls.getD i []) t (pos (ls.getD i []) t)) := by
  unfold addT
  rw [hi]
  rfl

theorem Srt.add {ls : List (List Tm)} (h : Srt ls) (now : Int) {t : Tm} (hn : ∀ x ∈ ls.flatten, x.2 ≠ t.2) : Srt (addT ls now t) := by
  have hp := @place_range t.1 now
  obtain ⟨i, hi⟩ : ∃ i : Nat, placeOf t.1 now = (i : Int) := ⟨(placeOf t.1 now).toNat, by omega⟩
  have hil : i < ls.length := by rw [h.len]; omega
  have hl : ls[i]? = some (ls.getD i []) := by simp [List.getD, List.getElem?_eq_getElem hil]
  rw [addT_eq ls now t i hi]
  refine ⟨by rw [List.length_set]; exact h.len, fun m hm => ?_, ?_⟩
  · rcases List.mem_or_eq_of_mem_set hm with hm | rfl
    · exact h.ord m hm
    · refine insAt_sorted (h.ord _ (List.mem_of_getElem? hl)) t _ (pos_before _ _) fun x hx => ?_
      exact cmp_flip (pos_behind (h.ord _ (List.mem_of_getElem? hl)) t x hx) (hn x (List.mem_flatten.2 ⟨_, List.mem_of_getElem? hl, List.mem_of_mem_drop hx⟩))
  · rw [((set_perm hl t _).map _).nodup_iff, List.map_cons, List.nodup_cons]
    refine ⟨fun hm => ?_, h.ids⟩
    obtain ⟨x, hx, e⟩ := List.mem_map.1 hm
    exact hn x hx e

theorem addT_perm {ls : List (List Tm)} (h : ls.length = 25) (now : Int) (t : Tm) : (addT ls now t).flatten.Perm (t :: ls.flatten) := by
  have hp := @place_range t.1 now
  obtain ⟨i, hi⟩ : ∃ i : Nat, placeOf t.1 now = (i : Int) := ⟨(placeOf t.1 now).toNat, by omega⟩
  have hil : i < ls.length := by rw [h]; omega
  rw [addT_eq ls now t i hi]
  exact set_perm (by simp [List.getD, List.getElem?_eq_getElem hil]) t _

/-- Timers put one by one. -/
def addAll (ls : List (List Tm)) (now : Int) (l : List Tm) : List (List Tm) := l.foldl (fun ls t => addT ls now t) ls

theorem addAll_snoc (ls : List (List Tm)) (now : Int) (l : List Tm) (t : Tm) : addAll ls now (l ++ [t]) = addT (addAll ls now l) now t := by simp [addAll]

theorem addAll_len (ls : List (List Tm)) (now : Int) (l : List Tm) (h : ls.length = 25) : (addAll ls now l).length = 25 := by
  induction l generalizing ls with
  | nil => exact h
  | cons t l ih =>
    refine ih _ ?_
    show (addT ls now t).length = 25
    unfold addT
    rw [List.length_set]
    exact h

theorem addAll_perm (ls : List (List Tm)) (now : Int) (l : List Tm) (h : ls.length = 25) : (addAll ls now l).flatten.Perm (l ++ ls.flatten) := by
  induction l generalizing ls with
  | nil => exact .refl _
  | cons t l ih =>
    have h1 : (addT ls now t).length = 25 := by unfold addT; rw [List.length_set]; exact h
    exact (ih (addT ls now t) h1).trans (((addT_perm h now t).append_left l).trans List.perm_middle)

theorem addAll_srt (ls : List (List Tm)) (now : Int) (l : List Tm) (h : Srt ls) (hn : ((l ++ ls.flatten).map (·.2)).Nodup) : Srt (addAll ls now l) := by
  induction l generalizing ls with
  | nil => exact h
  | cons t l ih =>
    have hn2 : (((t :: l) ++ ls.flatten).map (·.2)).Nodup := hn
    rw [List.cons_append, List.map_cons, List.nodup_cons] at hn2
    have hfr : ∀ x ∈ ls.flatten, x.2 ≠ t.2 := fun x hx e => hn2.1 (List.mem_map.2 ⟨x, List.mem_append_right _ hx, e⟩)
    refine ih (addT ls now t) (h.add now hfr) ?_
    have hp : ((l ++ (addT ls now t).flatten).map (·.2)).Perm (((t :: l) ++ ls.flatten).map (·.2)) := (((addT_perm h.len now t).append_left l).trans List.perm_middle).map _
    rw [hp.nodup_iff]
    exact hn

theorem len_le_flatten {ls : List (List Tm)} {l : List Tm} (h : l ∈ ls) : l.length ≤ ls.flatten.length := by
  induction ls with
  | nil => cases h
  | cons m ls ih =>
    rw [List.flatten_cons, List.length_append]
    rcases List.mem_cons.1 h with rfl | h
    · omega
    · have := ih h; omega

theorem set_nil_perm {ls : List (List Tm)} {p : Nat} {L : List Tm} (h : ls[p]? = some L) : (L ++ (ls.set p []).flatten).Perm ls.flatten := by
  obtain ⟨a, b, e1, e2, _⟩ := flatten_set ls p L [] h
  rw [e2, e1]
  simp only [List.flatten_append, List.flatten_cons, List.nil_append]
  rw [← List.append_assoc, ← List.append_assoc]
  exact List.perm_append_comm.append_right _

theorem Srt.clear {ls : List (List Tm)} (h : Srt ls) {p : Nat} {L : List Tm} (hL : ls[p]? = some L) : Srt (ls.set p []) := by
  refine ⟨by rw [List.length_set]; exact h.len, fun m hm => ?_, ?_⟩
  · rcases List.mem_or_eq_of_mem_set hm with hm | rfl
    · exact h.ord m hm
    · exact .nil
  · have := ((set_nil_perm hL).map (·.2)).nodup_iff.2 h.ids
    rw [List.map_append, List.nodup_append] at this
    exact this.2.1

/-- The list is emptied: its row is left behind. -/
theorem Turn.clear {w : World} {base T B M n : Nat} {now : Int} {vs : List Value} {ls : List (List Tm)} {f : Int → Option Int} (h : Turn w base T B M n now vs ls f) {p : Nat} (hp : p < 25) {u : Value} (hu : vs[p]? = some u) :
    Turn (w.setCell ⟨B, p, none⟩ (.slice none 0 0)) base T B M n now (vs.set p (.slice none 0 0)) (ls.set p []) f ∧ ∀ g, u.ownBlock = some g → Free (w.setCell ⟨B, p, none⟩ (.slice none 0 0)) (vs.set p (.slice none 0 0)) T B M g ∧ (w.setCell ⟨B, p, none⟩ (.slice none 0 0)).heap[g]? = w.heap[g]? := by
  have hpl : p < ls.length := by rw [h.len]; exact hp
  have hpv : p < vs.length := by rw [h.own.each.1]; exact hpl
  have hBT : T ≠ B := fun e => h.offT _ (List.mem_cons_self ..) (by rw [e]; rfl)
  have hBM : M ≠ B := fun e => h.offM _ (List.mem_cons_self ..) (by rw [e]; rfl)
  have hmem : u ∈ vs := List.mem_of_getElem? hu
  have hg0 : w.grownBy w u.ownBlock := ⟨rfl, rfl, rfl, Nat.le_refl _, fun _ _ _ => rfl⟩
  have hown := h.own.put h.len hpl hu hg0 (u' := .slice none 0 0) (l' := []) (World.ownsRow_nil _ _ _ _) (fun g hg => by cases hg)
  have hoff : ∀ X, (∀ x ∈ Value.slice (some ⟨B, 0, none⟩) 25 25 :: vs, x.ownBlock ≠ some X) → ∀ x ∈ Value.slice (some ⟨B, 0, none⟩) 25 25 :: vs.set p (.slice none 0 0), x.ownBlock ≠ some X := fun X ho x hx => by
    rcases List.mem_cons.1 hx with rfl | hx
    · exact ho _ (List.mem_cons_self ..)
    · rcases List.mem_or_eq_of_mem_set hx with h | rfl
      · exact ho x (List.mem_cons_of_mem _ h)
      · intro e; cases e
  refine ⟨⟨(Below.heap_setCell _ _ _ _ hBT).trans h.box, hown, h.map.keep (Below.heap_setCell _ _ _ _ hBM), hoff T h.offT, hoff M h.offM, h.hT, h.hM, h.hTM, by rw [List.length_set]; exact h.len⟩, fun g hg => ?_⟩
  have hgB : g ≠ B := fun e => (List.pairwise_cons.1 h.own.apart).1 u hmem B rfl (by rw [hg, e])
  have hui : vs[p] = u := by rw [List.getElem?_eq_getElem hpv] at hu; exact Option.some.inj hu
  have hgl : g < w.heap.size := by
    have h1 := (h.own.each.2 p hpv hpl).lt g (by rw [hui]; exact hg)
    exact h1.2
  refine ⟨⟨by simpa using hgl, fun e => h.offT u (List.mem_cons_of_mem _ hmem) (by rw [hg, e]), hgB, fun e => h.offM u (List.mem_cons_of_mem _ hmem) (by rw [hg, e]), fun x hx e => ?_⟩, Below.heap_setCell _ _ _ _ hgB⟩
  obtain ⟨j, hj, rfl⟩ := List.getElem_of_mem hx
  by_cases hjp : j = p
  · subst hjp
    rw [List.getElem_set_self] at e
    cases e
  · rw [List.getElem_set_ne (Ne.symm hjp)] at e
    have hj' : j < vs.length := by simpa using hj
    have hpair := List.pairwise_iff_getElem.1 (List.pairwise_cons.1 h.own.apart).2
    rcases Nat.lt_or_gt_of_ne hjp with h1 | h1
    · exact hpair j p hj' hpv h1 g e (by rw [hui]; exact hg)
    · exact hpair p j hpv hj' h1 g (by rw [hui]; exact hg) e

set_option maxHeartbeats 8000000 in
set_option maxRecDepth 100000 in
theorem handOn_any (base T B M n : Nat) (now : Int) (vs : List Value) (ls : List (List Tm)) (f : Int → Option Int) (p : Nat) (L : List Tm) (w : World) (hB : Blk w) (hT : Turn w base T B M n now vs ls f) (hb0 : 0 < base) (hbase : base ≤ w.heap.size) (hn : 0 ≤ now) (hn2 : now ≤ 1099511627776)
    (hp : p < 25) (hL : ls[p]? = some L) (hLb : ∀ t ∈ L, 0 ≤ t.1 ∧ t.1 ≤ 4398046511104 ∧ (Lit.int .i64 t.2).wf = true) (hS : Srt ls) (htot : ls.flatten.length ≤ 1048576) (hnn : n ≤ 1000000000) :
    Calls Tryd.prog 40 #[.pointer (some ⟨T, 0, none⟩), .int .i64 p] w fun r w' => r = .returned (.tuple #[]) ∧ ∃ vs' n' f', Turn w' base T B M n' now vs' (addAll (ls.set p []) now L) f' ∧ n' ≤ n + L.length ∧ Below base w w' := by
  obtain ⟨t0, t1, t2, tlt⟩ := three_cells hT.box
  have hpl : p < ls.length := by rw [hT.len]; exact hp
  obtain ⟨u, hu, hown⟩ := own_at hT.own p hpl
  have hlc := lists_cell hT.own hT.len p hpl u hu
  have hLp : ls[p] = L := by rw [List.getElem?_eq_getElem hpl] at hL; exact Option.some.inj hL
  rw [hLp] at hown
  have hfz : w.frozen? ⟨B, p, none⟩ = false := by
    have h25 := hT.own.row
    rw [hT.len] at h25
    exact h25.frozenAt p
  have hcl := hT.clear hp hu
  have hnd : ((L ++ (ls.set p []).flatten).map (·.2)).Nodup := ((set_nil_perm hL).map (·.2)).nodup_iff.2 hS.ids
  have hLlen : L.length ≤ 1048576 := Nat.le_trans (len_le_flatten (List.mem_of_getElem? hL)) htot
  obtain ⟨up, uc, rfl⟩ := own_form hown
  have hread := rowAt_own hown
  have hBb := (hT.own.row.lt B rfl).1
  have HX : Hid (_ ∧ _ ∧ _ ∧ _ ∧ _ ∧ _ ∧ _ ∧ _ ∧ _) := ⟨hT, hcl, hnd, hread, hLb, hS, hL, hB, htot⟩
  have hTB : T ≠ B := fun e => hT.offT _ (List.mem_cons_self ..) (by rw [e]; rfl)
  have hpI : (p : Int) < 25 := by omega
  clear hT hcl hnd hread hLb hS hB hu hown hL hLp htot
  go_enter Tryd.func40, Tryd.ntmps40
  go_wp2
  go_loopw [24] (fun i wr => ∃ (k n' : Nat) (vs' : List Value) (f' : Int → Option Int), i = .int .i64 k ∧ k ≤ L.length ∧ Turn wr base T B M n' now vs' (addAll (ls.set p []) now (L.take k)) f' ∧ n' ≤ n + k ∧ Below base w wr ∧ ∀ g, (Value.slice up L.length uc).ownBlock = some g → Free wr vs' T B M g ∧ wr.heap[g]? = w.heap[g]?) (fun i _ => L.length - (intOf i).toNat)
  case atStart =>
    exact ⟨0, n, _, f, rfl, Nat.zero_le _, HX.out.2.1.1, Nat.le_refl _, (Below.refl _ _).setCell (by exact hBb) _, HX.out.2.1.2⟩
  case round =>
    obtain ⟨k, n', vs', f', rfl, hk, hT, hnk, hbr, hfree⟩ := hrel
    by_cases hlt : k < L.length
    · obtain ⟨ga, ca, hv, _, _, pu⟩ := TmAt.parts HX.out.2.2.2.1
      simp only [Value.slice.injEq] at hv
      obtain ⟨rfl, _, rfl⟩ := hv
      obtain ⟨bu, ou, rfl, hbu, p1, p2⟩ := pu k hlt
      have hfr := hfree bu rfl
      have e1 := (World.cell?_of_block (a := ⟨bu, ou + k * 2, none⟩) hfr.2).trans p1
      have e2 := (World.cell?_of_block (a := ⟨bu, ou + k * 2 + 1, none⟩) hfr.2).trans p2
      obtain ⟨ta, hta⟩ : ∃ ta, L[k].1 = ta := ⟨_, rfl⟩
      obtain ⟨td, htd⟩ : ∃ td, L[k].2 = td := ⟨_, rfl⟩
      have hLk : L[k] = (ta, td) := Prod.ext hta htd
      rw [hta] at e1
      rw [htd] at e2
      have hbnd := HX.out.2.2.2.2.1 L[k] (List.getElem_mem hlt)
      rw [hLk] at hbnd
      have htk : L.take (k + 1) = L.take k ++ [(ta, td)] := by rw [List.take_succ_eq_append_getElem hlt, hLk]
      obtain ⟨cur, hcur⟩ : ∃ cur, cur = addAll (ls.set p []) now (L.take k) := ⟨_, rfl⟩
      have hS0 : Srt (ls.set p []) := HX.out.2.2.2.2.2.1.clear HX.out.2.2.2.2.2.2.1
      have hnd2 : (((L.take k ++ [(ta, td)]) ++ (ls.set p []).flatten).map (·.2)).Nodup := by
        rw [← htk]
        exact HX.out.2.2.1.sublist ((List.Sublist.append_right (List.take_sublist _ _) _).map _)
      have hScur : Srt cur := by
        rw [hcur]
        refine addAll_srt _ _ _ hS0 (hnd2.sublist ((List.Sublist.append_right (List.sublist_append_left _ _) _).map _))
      have hpm : cur.flatten.Perm (L.take k ++ (ls.set p []).flatten) := by rw [hcur]; exact addAll_perm _ _ _ hS0.len
      have hfresh : ∀ x ∈ cur.flatten, x.2 ≠ td := fun x hx e => by
        have hx2 := hpm.mem_iff.1 hx
        have h1 : (((ta, td) :: (L.take k ++ (ls.set p []).flatten)).map (·.2)).Nodup := by
          refine (List.Perm.nodup_iff (List.Perm.map _ ?_)).1 hnd2
          rw [List.append_assoc]
          exact List.perm_middle
        rw [List.map_cons, List.nodup_cons] at h1
        exact h1.1 (List.mem_map.2 ⟨x, hx2, e⟩)
      have hpr := @place_range ta now
      obtain ⟨i, hi⟩ : ∃ i : Nat, placeOf ta now = (i : Int) := ⟨(placeOf ta now).toNat, by omega⟩
      have hi25 : i < 25 := by omega
      have hil : i < cur.length := by rw [hScur.len]; exact hi25
      have hl : cur[i]? = some (cur.getD i []) := by simp [List.getD, List.getElem?_eq_getElem hil]
      have hord := hScur.ord _ (List.mem_of_getElem? hl)
      have hll : (cur.getD i []).length ≤ 1048576 := by
        refine Nat.le_trans (len_le_flatten (List.mem_of_getElem? hl)) ?_
        rw [hpm.length_eq]
        refine Nat.le_trans ?_ HX.out.2.2.2.2.2.2.2.2
        rw [← (set_nil_perm HX.out.2.2.2.2.2.2.1).length_eq, List.length_append, List.length_append, List.length_take]
        omega
      rw [← hcur] at hT
      obtain ⟨w3, hw3⟩ : ∃ w3, w3 = wr.alloc (.cells #[.int .i64 ta, .int .i64 td] 45) := ⟨_, rfl⟩
      have hb3 : Below wr.heap.size wr w3 := by rw [hw3]; exact (Below.refl _ _).alloc (Nat.le_refl _) _
      have hT3 := hT.below hb3
      have hB3 : Blk w3 := (HX.out.2.2.2.2.2.2.2.1.keep (hbr.block 0 hb0)).below hb3
      have hs3 := hb3.size
      have hsr := hbr.size
      have hadd : cur.set i (insAt (cur.getD i []) (ta, td) (pos (cur.getD i []) (ta, td))) = addAll (ls.set p []) now (L.take (k + 1)) := by
        rw [htk, addAll_snoc, ← hcur, addT_eq cur now (ta, td) i hi]
      have HP := put_any base T B M n' now vs' cur f' ta td i (pos (cur.getD i []) (ta, td)) w3 hB3 hT3 hb0 (by omega) hn hn2 (by unfold maxLen; omega) hi25 ⟨hbnd.1, hbnd.2.1⟩ hbnd.2.2 hi _ hl hll (pos_le _ _) (fun k hk hkp => pos_before _ _ _ (List.mem_take_iff_getElem.2 ⟨k, by omega, rfl⟩)) (fun k hk hkp => pos_behind hord _ _ (List.mem_drop_iff_getElem.2 ⟨k - pos (cur.getD i []) (ta, td), by omega, by congr 1; omega⟩))
      rw [hadd] at HP
      have HQ : Hid (_ ∧ _ ∧ _ ∧ _ ∧ _ ∧ _) := ⟨HP, hw3, hfree, hbr, hb3, hnk⟩
      clear HP hw3 hfree hbr hb3 hnk hadd hT3 hB3 hT hll hord hl hil hi hpr hfresh hpm hScur hnd2 hS0 hcur htk hbnd hLk hta htd p1 p2 hfr hs3 hsr
      go_wp2_with fail
      rw [← HQ.out.2.1]
      refine HQ.out.1.mono ?_
      rintro r w5 ⟨rfl, vs5, hT5, hb5, hf5⟩
      have hfree5 : ∀ g, (Value.slice (some ⟨bu, ou, none⟩) L.length uc).ownBlock = some g → Free w5 vs5 T B M g ∧ w5.heap[g]? = w.heap[g]? := fun g hg => by
        obtain ⟨h1, h2⟩ := HQ.out.2.2.1 g hg
        have h3 := hf5 g ⟨Nat.lt_of_lt_of_le h1.1 HQ.out.2.2.2.2.1.size, h1.2⟩
        exact ⟨h3.2, h3.1.trans ((HQ.out.2.2.2.2.1.block g h1.1).trans h2)⟩
      have hbw5 : Below base w w5 := (HQ.out.2.2.2.1.trans (HQ.out.2.2.2.2.1.mono (by have := HQ.out.2.2.2.1.size; omega))).trans hb5
      have HZ : Hid (_ ∧ _ ∧ _) := ⟨hT5, hfree5, hbw5⟩
      clear hT5 hfree5 hbw5 hb5 hf5
      go_wp2
      go_roundw
      case rel => exact ⟨k + 1, n' + 1, vs5, _, by simp, hlt, HZ.out.1, by have := HQ.out.2.2.2.2.2; omega, HZ.out.2.2, HZ.out.2.1⟩
      case measure => simp [intOf]; omega
    · obtain rfl : k = L.length := by omega
      rw [List.take_length] at hT
      have HZ : Hid (_ ∧ _ ∧ _) := ⟨hT, hnk, hbr⟩
      clear hT hnk hbr hfree
      go_wp2
      go_end0
      exact ⟨rfl, vs', n', f', HZ.out.1, HZ.out.2.1, HZ.out.2.2⟩
end Go.Proofs.YtdfjobghgbcjpaaDoor.Walks
