/-
  slices.DeleteFunc, whole. The row is owned, and one goes.
-/
import Derived.Test.YtdfjobghgbcjpaaDoorDelete
import Derived.WalkKit
import Derived.ProofKit
import Derived.Handy
import Derived.LoopTactic
import Derived.Below
import Derived.Laws.BitsAllLaws
import Derived.RegionTactic
import Derived.Deep.RegionHeld3
import Derived.Deep.DrawnRows
import Derived.Deep.AppendLies
import Derived.Laws.OwnMore
import Derived.Deep.Onto
import Derived.Deep.QuietTactic
import Derived.BigQuiet
namespace Go.Proofs.YtdfjobghgbcjpaaDoor.Walks
open Go.RowKit
set_option linter.unusedVariables false
set_option linter.unusedSimpArgs false
attribute [local go_sem ↓] Go.wp_at_zero Go.wp_at_succ

theorem zeroTm (W : World) : (zeroValue 45).run Tryd.prog W = .ok (.agg #[.int .i64 0, .int .i64 0]) W := by kernel_rfl

theorem own_grown {w w' : World} {base : Nat} {e : TypeId} {k : Nat} {v : Value} {n : Nat} {xs : List Value} (h : w.ownsRow base e k v n xs) (hb : Below w.heap.size w w') : w'.ownsRow base e k v n xs := own_block h fun g hg => hb.block g (h.lt g hg).2

theorem grown_below {w w' : World} {row : Option Nat} (hb : Below w.heap.size w w') : w.grownBy w' row := ⟨hb.os, hb.tape, hb.output, hb.size, fun k hk _ => hb.block k hk⟩

theorem drop_cons {l : List Tm} {j : Nat} (h : j < l.length) : l.drop j = l[j] :: l.drop (j + 1) := (List.getElem_cons_drop h).symm

/-- What the row holds midway. -/
def midRow (l : List Tm) (id : Int) (junk : List Tm) (j : Nat) : List Tm := kp (l.take j) id ++ junk ++ l.drop j

theorem mid_at {l : List Tm} {id : Int} {junk : List Tm} {j : Nat} (hj : j < l.length) (hl : (kp (l.take j) id).length + junk.length = j) : (midRow l id junk j)[j]? = some l[j] := by
  unfold midRow
  rw [List.getElem?_append_right (by rw [List.length_append]; omega), List.length_append, hl, Nat.sub_self, drop_cons hj]
  rfl

theorem mid_len {l : List Tm} {id : Int} {junk : List Tm} {j : Nat} (hj : j ≤ l.length) (hl : (kp (l.take j) id).length + junk.length = j) : (midRow l id junk j).length = l.length := by
  unfold midRow
  rw [List.length_append, List.length_append, List.length_drop]
  omega

theorem mid_skip {l : List Tm} {id : Int} {junk : List Tm} {j : Nat} (hj : j < l.length) (e : l[j].2 = id) : midRow l id (junk ++ [l[j]]) (j + 1) = midRow l id junk j ∧ kp (l.take (j + 1)) id = kp (l.take j) id := by
  have h1 : kp (l.take (j + 1)) id = kp (l.take j) id := by rw [List.take_succ_eq_append_getElem hj, kp_snoc, if_pos e, List.append_nil]
  refine ⟨?_, h1⟩
  unfold midRow
  rw [h1, drop_cons hj]
  simp

theorem mid_take {l : List Tm} {id : Int} {x : Tm} {junk : List Tm} {j : Nat} (hj : j < l.length) (e : l[j].2 ≠ id) : midRow l id (junk ++ [l[j]]) (j + 1) = (midRow l id (x :: junk) j).set (kp (l.take j) id).length l[j] ∧ kp (l.take (j + 1)) id = kp (l.take j) id ++ [l[j]] := by
  have h1 : kp (l.take (j + 1)) id = kp (l.take j) id ++ [l[j]] := by rw [List.take_succ_eq_append_getElem hj, kp_snoc, if_neg e]
  refine ⟨?_, h1⟩
  unfold midRow
  rw [h1, drop_cons hj]
  simp

set_option maxHeartbeats 4000000 in
set_option maxRecDepth 100000 in
theorem delete_any (base g c : Nat) (l : List Tm) (id : Int) (gid : Nat) (w : World) (hown : w.ownsRow base 45 2 (.slice (some ⟨g, 0, none⟩) l.length c) l.length (tcells l)) (h : w.cell? ⟨gid, 0, none⟩ = some (.int .i64 id)) (hne : gid ≠ g) (hex : ∃ t ∈ l, t.2 = id) :
    Calls Tryd.prog 37 #[.slice (some ⟨g, 0, none⟩) l.length c, .func (.func 38) #[] #[.pointer (some ⟨gid, 0, none⟩)]] w fun r w' => r = .returned (.slice (some ⟨g, 0, none⟩) (kp l id).length c) ∧ w'.ownsRow base 45 2 (.slice (some ⟨g, 0, none⟩) (kp l id).length c) (kp l id).length (tcells (kp l id)) ∧ w.grownBy w' (some g) := by
  have hidx := index_any _ l id gid w (rowAt_own hown) h hex
  have hglt := World.block_lt_of_cell? w ⟨gid, 0, none⟩ h
  have hcap : l.length ≤ c ∧ c ≤ maxLen := by
    obtain ⟨_, c', he, hc, hm, _⟩ := rowAt_own hown
    cases he
    exact ⟨hc, hm⟩
  obtain ⟨hc1, hc2⟩ := hcap
  unfold maxLen at hc2
  have H0 : Hid (_ ∧ _ ∧ _) := ⟨hidx, hown, h⟩
  clear hidx hown h hex
  go_enter Tryd.func37, Tryd.ntmps37
  go_wp2_with fail
  refine H0.out.1.mono ?_
  rintro r w1 ⟨k, hk, rfl, hkid, hbef, hb1⟩
  have hkp : kp (l.take k) id = l.take k := kp_all hbef
  have hms := mid_skip (junk := []) hk hkid
  have H1 : Hid (_ ∧ _ ∧ _ ∧ _) := ⟨hb1, hkp, hms.1, hms.2⟩
  have hkm : ((k : Int) == -1) = false := by
    rw [beq_eq_false_iff_ne]; omega
  clear hb1 hkp hms hkid hbef
  go_wp2
  go_loopw [5, 6] (fun s5 s6 wr => ∃ (j : Nat) (junk : List Tm), s5 = .int .i64 ((kp (l.take j) id).length : Nat) ∧ s6 = .int .i64 j ∧ j ≤ l.length ∧ (kp (l.take j) id).length + junk.length = j ∧ junk ≠ [] ∧ wr.ownsRow base 45 2 (.slice (some ⟨g, 0, none⟩) l.length c) l.length (tcells (midRow l id junk j)) ∧ w.grownBy wr (some g)) (fun _ s6 _ => l.length - (intOf s6).toNat)
  case atStart =>
    obtain ⟨hb1, hkp, hm1, hm2⟩ := H1.out
    have e0 : midRow l id [l[k]] (k + 1) = l := by
      have : midRow l id ([] ++ [l[k]]) (k + 1) = midRow l id [] k := hm1
      rw [List.nil_append] at this
      rw [this]
      unfold midRow
      rw [hkp, List.append_nil, List.take_append_drop]
    have e1 : (kp (l.take (k + 1)) id).length = k := by rw [hm2, hkp, List.length_take]; omega
    refine ⟨k + 1, [l[k]], by rw [e1], by simp, hk, by rw [e1]; rfl, by simp, ?_, grown_below hb1⟩
    rw [e0]
    exact own_grown H0.out.2.1 hb1
  case round =>
    obtain ⟨j, junk, rfl, rfl, hj, hjl, hjn, hrow, hgr⟩ := hrel
    have hml := mid_len hj hjl
    have hc3 : wr.cell? ⟨gid, 0, none⟩ = some (.int .i64 id) := hgr.cell H0.out.2.2 (by simpa using hne)
    obtain ⟨x, junk', rfl⟩ : ∃ x junk', junk = x :: junk' := by
      cases junk with
      | nil => exact absurd rfl hjn
      | cons x r => exact ⟨x, r, rfl⟩
    rw [List.length_cons] at hjl
    have hglt2 : gid < wr.heap.size := Nat.lt_of_lt_of_le hglt hgr.size
    have hrl := (hrow.lt g rfl).2
    generalize hi : (kp (l.take j) id).length = i at *
    by_cases hlt : j < l.length
    · have hat := mid_at (id := id) (junk := x :: junk') hlt (by rw [hi, List.length_cons]; omega)
      obtain ⟨hj', hat'⟩ := List.getElem?_eq_some_iff.1 hat
      have ht := tcells_at (midRow l id (x :: junk') j) j hj'
      rw [hat'] at ht
      have f1 := (hrow.cellAt (j * 2) (by omega)).trans ht.1
      have f2 := (hrow.cellAt (j * 2 + 1) (by omega)).trans ht.2
      have hti := tcells_at (midRow l id (x :: junk') j) i (by omega)
      have f3 := (hrow.cellAt (i * 2) (by omega)).trans hti.1
      have f4 := (hrow.cellAt (i * 2 + 1) (by omega)).trans hti.2
      have f5 := hrow.frozenAt (i * 2)
      have f6 := hrow.frozenAt (i * 2 + 1)
      obtain ⟨xa, hxa⟩ : ∃ xa, xa = l[j].1 := ⟨_, rfl⟩
      obtain ⟨xd, hxd⟩ : ∃ xd, xd = l[j].2 := ⟨_, rfl⟩
      rw [← hxa] at f1
      rw [← hxd] at f2
      generalize ((midRow l id (x :: junk') j)[i]'(by omega)).1 = oa at f3
      generalize ((midRow l id (x :: junk') j)[i]'(by omega)).2 = od at f4
      have hlj : l[j] = (xa, xd) := by rw [hxa, hxd]
      have HR : Hid (_ ∧ _ ∧ _ ∧ _ ∧ _) := ⟨hrow, hgr, hc3, hlj, hi⟩
      have hjI : (j : Int) < (l.length : Int) := by omega
      have hiI : (i : Int) < (l.length : Int) := by omega
      have hilj : i < j := by omega
      have hil : i < l.length := by omega
      clear hrow hgr hc3 hat hat' ht hti hxa hxd hlj hj' hi hjn
      have hcc : ((wr.alloc (.cells #[.int .i64 xa, .int .i64 xd] 45))).cell? ⟨gid, 0, none⟩ = some (.int .i64 id) := by
        rw [World.cell?_of_block (a := ⟨gid, 0, none⟩) (Below.heap_alloc wr _ gid hglt2)]; exact HR.out.2.2.1
      have HCC : Hid _ := hcc
      clear hcc
      cases hd : decide (xd = id)
      · go_wp2_with fail
        refine (del_any xa xd id gid _ HCC.out).mono ?_
        rw [hd]
        rintro r w2 ⟨rfl, rfl⟩
        go_wp2
        go_roundw
        case rel =>
          obtain ⟨hrow, hgr, hc3, hlj, hi⟩ := HR.out
          have hne2 : l[j].2 ≠ id := by rw [hlj]; exact of_decide_eq_false hd
          obtain ⟨m1, m2⟩ := mid_take (x := x) (junk := junk') hlt hne2
          have hr1 := hrow.stored (i * 2) (.int .i64 xa)
          have hr2 := hr1.1.stored (i * 2 + 1) (.int .i64 xd)
          have hts := tcells_set (midRow l id (x :: junk') j) i (xa, xd)
          rw [hts] at hr2
          rw [hi, hlj] at m1
          refine ⟨j + 1, junk' ++ [l[j]], by rw [m2, List.length_append, hi]; simp, by simp, hlt, by rw [m2, List.length_append, hi]; simp; omega, by simp, ?_, ?_⟩
          · rw [hlj, m1]; exact (hr2.1.alloc _).alloc _
          · exact (((hgr.trans hr1.2).trans hr2.2).trans (World.grownBy_alloc _ _ _)).trans (World.grownBy_alloc _ _ _)
        case measure => simp [intOf]; omega
      · go_wp2_with fail
        refine (del_any xa xd id gid _ HCC.out).mono ?_
        rw [hd]
        rintro r w2 ⟨rfl, rfl⟩
        go_wp2
        go_roundw
        case rel =>
          obtain ⟨hrow, hgr, hc3, hlj, hi⟩ := HR.out
          have he2 : l[j].2 = id := by rw [hlj]; exact of_decide_eq_true hd
          obtain ⟨m1, m2⟩ := mid_skip (junk := x :: junk') hlt he2
          refine ⟨j + 1, x :: junk' ++ [l[j]], by rw [m2, hi], by simp, hlt, by rw [m2, hi]; simp; omega, by simp, ?_, ?_⟩
          · rw [m1]; exact (hrow.alloc _).alloc _
          · exact (hgr.trans (World.grownBy_alloc _ _ _)).trans (World.grownBy_alloc _ _ _)
        case measure => simp [intOf]; omega
    · obtain rfl : j = l.length := by omega
      have hii : i < l.length := by omega
      obtain ⟨vs, hcl⟩ := run_clear_two (P := Tryd.prog) wr 38 45 0 (.int .i64 0) (.int .i64 0) Tryd.underlying38 zeroTm rfl rfl g (i * 2) (l.length - i) (c - i) (by omega) (fun t ht => by
        have h1 := hrow.cellAt (i * 2 + t) (by omega)
        rw [h1, List.getElem?_eq_getElem (by rw [tcells_len, hml]; omega)]
        rfl) (fun t _ => hrow.frozenAt _)
      have hcut := owns_past vs (i * 2) wr (owns_cut hrow (i := i) (by omega)) (Nat.le_refl _)
      have e1 : (tcells (midRow l id (x :: junk') l.length)).take (i * 2) = tcells (kp l id) := by
        have e2 : kp (l.take l.length) id = kp l id := by rw [List.take_length]
        rw [e2] at hi
        rw [tcells_take]
        unfold midRow
        rw [e2, List.append_assoc, List.take_append_of_le_length (by omega), ← hi, List.take_length]
      rw [e1] at hcut
      have hik : (kp l id).length = i := by rw [← hi, List.take_length]
      have HR : Hid (_ ∧ _ ∧ _) := ⟨hcut, hgr, hik⟩
      have hiI : (i : Int) < (l.length : Int) := by omega
      have hiI2 : (i : Int) ≤ (c : Int) := by omega
      have hcne : c ≠ i := by omega
      clear hcut hgr hrow hi e1 hik
      go_wp2
      go_ret
      obtain ⟨r1, r2, r3⟩ := HR.out
      rw [r3]
      exact ⟨rfl, r1.1, r2.trans r1.2⟩
end Go.Proofs.YtdfjobghgbcjpaaDoor.Walks
