/-
  usherref.joined. Condition: what is read can be read; the lives rise.
-/
import Derived.Test.YtlpedligkofegaaRefF
import Derived.Shelf.SlSortCmp.QuietGrown
import Derived.BigQuiet
import Derived.WalkKit
import Derived.ProofKit
import Derived.Handy
import Derived.LoopTactic
import Derived.Below
import Derived.Laws.BitsAllLaws
import Derived.RegionTactic
import Derived.Deep.RegionHeld3
import Derived.Deep.DrawnRows
import Derived.Deep.AppendLies
import Derived.Laws.OwnMore
import Derived.Deep.Onto
import Derived.Deep.QuietTactic
namespace Go.Proofs.Ytlpedligkofegaa.Walks
open Go.RowKit
set_option linter.unusedVariables false
set_option linter.unusedSimpArgs false
attribute [local go_sem ↓] Go.wp_at_zero Go.wp_at_succ
open Go.Sort (grow grow_empty grow_grow alloc_eq_grow cell?_grow heap_grow_old)

theorem below_drew1 {B : Nat} {W w' : World} (h : Below B W.drew w') : Below B W w' := ⟨h.os, h.tape, h.output, h.size, h.block⟩

theorem below_drew2 {B : Nat} {W w' : World} (h : Below B W.drew.drew w') : Below B W w' := ⟨h.os, h.tape, h.output, h.size, h.block⟩

/-- How many lives a new one takes the place of. -/
def skip (L : List Lf) (n : Int) : Nat := pos L n + (if here L n = true then 1 else 0)

/-- The lives that are laid so far. -/
def laid (L : List Lf) (x : Lf) (n : Int) (k : Nat) : List Lf := if k ≤ pos L n then L.take k else L.take (pos L n) ++ x :: (L.take k).drop (skip L n)

theorem laid_before {L : List Lf} {x : Lf} {n : Int} {k : Nat} (hk : k < L.length) (h : k < pos L n) : laid L x n (k + 1) = laid L x n k ++ [L[k]] := by
  unfold laid
  rw [if_pos (show k + 1 ≤ pos L n from h), if_pos (Nat.le_of_lt h), List.take_succ_eq_append_getElem hk]

theorem laid_at_new {L : List Lf} {x : Lf} {n : Int} {k : Nat} (hk : k < L.length) (h : k = pos L n) (hh : here L n = false) : laid L x n (k + 1) = (laid L x n k ++ [x]) ++ [L[k]] := by
  subst h
  unfold laid skip
  rw [if_neg (by omega), if_pos (Nat.le_refl _), hh, if_neg (by decide), Nat.add_zero, List.take_succ_eq_append_getElem hk, List.drop_append_of_le_length (by rw [List.length_take]; omega), List.drop_eq_nil_of_le (by rw [List.length_take]; omega)]
  simp

theorem laid_at_old {L : List Lf} {x : Lf} {n : Int} {k : Nat} (hk : k < L.length) (h : k = pos L n) (hh : here L n = true) : laid L x n (k + 1) = laid L x n k ++ [x] := by
  subst h
  unfold laid skip
  rw [if_neg (by omega), if_pos (Nat.le_refl _), hh, if_pos rfl, List.drop_eq_nil_of_le (by rw [List.length_take]; omega)]

theorem laid_after {L : List Lf} {x : Lf} {n : Int} {k : Nat} (hk : k < L.length) (h : pos L n < k) : laid L x n (k + 1) = laid L x n k ++ [L[k]] := by
  unfold laid
  have hs : skip L n ≤ k := by unfold skip; split <;> omega
  rw [if_neg (by omega), if_neg (by omega), List.take_succ_eq_append_getElem hk, List.drop_append_of_le_length (by rw [List.length_take]; omega)]
  simp

/-- The lives behind a join. -/
def joinL (L : List Lf) (x : Lf) (n : Int) : List Lf := if here L n = true then L.set (pos L n) x else insAt L x (pos L n)

theorem laid_end {L : List Lf} {x : Lf} {n : Int} (h : pos L n < L.length) : laid L x n L.length = joinL L x n := by
  unfold laid joinL skip
  rw [if_neg (by omega), List.take_length]
  cases hh : here L n
  · rw [if_neg (by decide), if_neg (by decide), Nat.add_zero]
    rfl
  · rw [if_pos rfl, if_pos rfl, List.set_eq_take_append_cons_drop, if_pos h]

theorem laid_none {L : List Lf} {x : Lf} {n : Int} (h : pos L n = L.length) : laid L x n L.length ++ [x] = joinL L x n := by
  unfold laid joinL
  have hh : here L n = false := by
    cases hh : here L n
    · rfl
    · have := here_lt hh; omega
  rw [if_pos (by omega), hh, if_neg (by decide), h, List.take_length, insAt_end]

theorem after_ne {L : List Lf} {n : Int} {k : Nat} (hr : L.Pairwise (fun a b => a.1 < b.1)) (hk : k < L.length) (h : pos L n < k) : n < L[k].1 := by
  have h1 := pos_there (n := n) (Nat.lt_trans h hk)
  have h2 := List.pairwise_iff_getElem.1 hr _ _ (Nat.lt_trans h hk) hk h
  omega

theorem at_pos {L : List Lf} {n : Int} {k : Nat} (hk : k < L.length) (h : k = pos L n) : n ≤ L[k].1 ∧ (here L n = true ↔ L[k].1 = n) := by
  subst h
  exact ⟨pos_there hk, here_is, here_of hk⟩

/-- The boxes of joined: the book, the life, the answer, what is laid so far. -/
structure JS (w W : World) (x y : Value) (n m : Int) (v : Value) : Prop where
  b0 : W.heap[w.heap.size]? = some (bkO x y)
  b1 : W.heap[w.heap.size + 1]? = some (lfO n 1 m 0 0 0)
  b2 : W.heap[w.heap.size + 1 + 1]? = some (bkO (.slice none 0 0) (.slice none 0 0))
  b3 : W.heap[w.heap.size + 1 + 1 + 1]? = some (bkO v y)
  bel : Below w.heap.size w W
  sz : w.heap.size + 4 ≤ W.heap.size

abbrev JO (w W : World) (v : Value) (j : Nat) (l : List Lf) : Prop := W.ownsRow (w.heap.size + 4) 44 6 v j (recs lfC l)

theorem JS.drewN {w W : World} {x y : Value} {n m : Int} {v : Value} (h : JS w W x y n m v) (q : Nat) : JS w (W.drewN q) x y n m v := ⟨h.b0, h.b1, h.b2, h.b3, below_drewN h.bel q, h.sz⟩

theorem jo_drewN {w W : World} {v : Value} {j : Nat} {l : List Lf} (h : JO w W v j l) (q : Nat) : JO w (W.drewN q) v j l := h

theorem js_step {w W : World} {x y : Value} {n m : Int} {p : Option Addr} {j c : Nat} {l : List Lf} (h : JS w W x y n m (.slice p j c)) (ho : JO w W (.slice p j c) j l) (hj : j ≤ 1000) (x1 x2 x3 x4 x5 x6 : Int) :
    ∃ g c' w5, (Builtin.append_ #[22, 22] 22 #[.slice p j c, .slice (some ⟨W.heap.size, 0, none⟩) 1 1]).run Try.prog ((W.alloc (lfO x1 x2 x3 x4 x5 x6)).drew) = .ok (.slice (some ⟨g, 0, none⟩) (j + 1) c') w5 ∧
      (w5.cell? ⟨w.heap.size + 1 + 1 + 1, 0, none⟩ = some (.slice p j c) ∧ w5.frozen? ⟨w.heap.size + 1 + 1 + 1, 0, none⟩ = false) ∧
      JS w (w5.setCell ⟨w.heap.size + 1 + 1 + 1, 0, none⟩ (.slice (some ⟨g, 0, none⟩) (j + 1) c')) x y n m (.slice (some ⟨g, 0, none⟩) (j + 1) c') ∧ JO w (w5.setCell ⟨w.heap.size + 1 + 1 + 1, 0, none⟩ (.slice (some ⟨g, 0, none⟩) (j + 1) c')) (.slice (some ⟨g, 0, none⟩) (j + 1) c') (j + 1) (l ++ [(x1, x2, x3, x4, x5, x6)]) := by
  have hsz := h.sz
  obtain ⟨g, c', w5, hr, hc, hb5, ho5, hk5, hs5, hB5⟩ := lives_step h.b3 ho (by omega) hsz (by omega) x1 x2 x3 x4 x5 x6
  exact ⟨g, c', w5, hr, hc, ⟨(hk5 _ (by omega) (by omega) (.inl (by omega))).trans h.b0, (hk5 _ (by omega) (by omega) (.inl (by omega))).trans h.b1, (hk5 _ (by omega) (by omega) (.inl (by omega))).trans h.b2, hb5, h.bel.trans (hB5.mono (by omega)), Nat.le_trans hsz hs5⟩, ho5⟩

theorem js_stepP {w W : World} {x y : Value} {n m : Int} {p : Option Addr} {j c : Nat} {l : List Lf} (h : JS w W x y n m (.slice p j c)) (ho : JO w W (.slice p j c) j l) (hj : j ≤ 1000) (x1 x2 x3 x4 x5 x6 : Int) :
    ∃ g c' w5, (Builtin.append_ #[22, 22] 22 #[.slice p j c, .slice (some ⟨W.heap.size, 0, none⟩) 1 1]).run Try.prog (W.alloc (lfO x1 x2 x3 x4 x5 x6)) = .ok (.slice (some ⟨g, 0, none⟩) (j + 1) c') w5 ∧
      (w5.cell? ⟨w.heap.size + 1 + 1 + 1, 0, none⟩ = some (.slice p j c) ∧ w5.frozen? ⟨w.heap.size + 1 + 1 + 1, 0, none⟩ = false) ∧
      JS w (w5.setCell ⟨w.heap.size + 1 + 1 + 1, 0, none⟩ (.slice (some ⟨g, 0, none⟩) (j + 1) c')) x y n m (.slice (some ⟨g, 0, none⟩) (j + 1) c') ∧ JO w (w5.setCell ⟨w.heap.size + 1 + 1 + 1, 0, none⟩ (.slice (some ⟨g, 0, none⟩) (j + 1) c')) (.slice (some ⟨g, 0, none⟩) (j + 1) c') (j + 1) (l ++ [(x1, x2, x3, x4, x5, x6)]) := by
  have hsz := h.sz
  obtain ⟨g, c', w5, hr, hc, hb5, ho5, hk5, hs5, hB5⟩ := lives_stepP h.b3 ho (by omega) hsz (by omega) x1 x2 x3 x4 x5 x6
  exact ⟨g, c', w5, hr, hc, ⟨(hk5 _ (by omega) (by omega) (.inl (by omega))).trans h.b0, (hk5 _ (by omega) (by omega) (.inl (by omega))).trans h.b1, (hk5 _ (by omega) (by omega) (.inl (by omega))).trans h.b2, hb5, h.bel.trans (hB5.mono (by omega)), Nat.le_trans hsz hs5⟩, ho5⟩

set_option maxHeartbeats 8000000 in
set_option maxRecDepth 100000 in
theorem joined_any (va vb : Value) (L : List Lf) (R : List Rq) (n m : Int) (w : World) (hv : BkAt w va vb L R) (hr : L.Pairwise (fun a b => a.1 < b.1)) (hlen : L.length ≤ 900) :
    Calls Try.prog 36 #[bkV va vb, lfV n 1 m 0 0 0] w fun r w' => ∃ p c, r = .returned (bkV (.slice p (joinL L (n, 1, m, 0, 0, 0) n).length c) vb) ∧ w'.ownsRow w.heap.size 44 6 (.slice p (joinL L (n, 1, m, 0, 0, 0) n).length c) (joinL L (n, 1, m, 0, 0, 0) n).length (recs lfC (joinL L (n, 1, m, 0, 0, 0) n)) ∧ Below w.heap.size w w' := by
  obtain ⟨pa, ca, rfl, hca, hma, pl⟩ := LvAt.parts hv.1
  obtain ⟨pb, cb, rfl, hcb, hmb⟩ := RcAt.form hv.2
  unfold maxLen at hma
  obtain ⟨J, hJ⟩ : ∃ J, J = joinL L (n, 1, m, 0, 0, 0) n := ⟨_, rfl⟩
  rw [← hJ]
  obtain ⟨W0, hW0⟩ : ∃ W0, W0 = (((w.alloc (bkO (.slice pa L.length ca) (.slice pb R.length cb))).alloc (lfO n 1 m 0 0 0)).alloc (bkO (.slice none 0 0) (.slice none 0 0))).alloc (bkO (.slice none 0 0) (.slice pb R.length cb)) := ⟨_, rfl⟩
  have hx := three_boxes w (bkO (.slice pa L.length ca) (.slice pb R.length cb)) (lfO n 1 m 0 0 0) (bkO (.slice none 0 0) (.slice none 0 0))
  have hjs : JS w W0 (.slice pa L.length ca) (.slice pb R.length cb) n m (.slice none 0 0) := by
    rw [hW0]
    refine ⟨heap_old _ _ hx.1, heap_old _ _ hx.2.1, heap_old _ _ hx.2.2.1, ?_, hx.2.2.2.1.alloc hx.2.2.2.1.size _, by simp⟩
    have := heap_alloc_new (((w.alloc (bkO (.slice pa L.length ca) (.slice pb R.length cb))).alloc (lfO n 1 m 0 0 0)).alloc (bkO (.slice none 0 0) (.slice none 0 0))) (bkO (.slice none 0 0) (.slice pb R.length cb))
    rwa [hx.2.2.2.2] at this
  have H : Hid (_ ∧ _ ∧ _ ∧ _) := ⟨hjs, pl, hr, hJ⟩
  clear hv pl hr hx hJ hjs
  go_enter Try.func36, Try.ntmps36
  go_wp2
  rw [← hW0]
  clear hW0
  go_loopw [6, 7] (fun d i wr => ∃ (k : Nat) (p : Option Addr) (j c : Nat), i = .int .i64 k ∧ d = .bool (decide (pos L n < k)) ∧ k ≤ L.length ∧ j = (laid L (n, 1, m, 0, 0, 0) n k).length ∧ j ≤ k + 1 ∧ JS w wr (.slice pa L.length ca) (.slice pb R.length cb) n m (.slice p j c) ∧ JO w wr (.slice p j c) j (laid L (n, 1, m, 0, 0, 0) n k)) (fun _ i _ => L.length - (intOf i).toNat)
  case atStart =>
    have hl0 : laid L (n, 1, m, 0, 0, 0) n 0 = [] := by unfold laid; rw [if_pos (Nat.zero_le _)]; rfl
    exact ⟨0, none, 0, 0, rfl, by simp, Nat.zero_le _, by rw [hl0]; rfl, by omega, H.out.1, by rw [hl0]; exact World.ownsRow_nil _ _ _ _⟩
  case round =>
    obtain ⟨k, p, j, c, rfl, rfl, hk, hj, hjk, hS, hO⟩ := hrel
    obtain ⟨c0, c1, _, _, clt⟩ := two_cells hS.b0
    obtain ⟨d0, d1, df0, df1, dlt⟩ := two_cells hS.b3
    by_cases hlt : k < L.length
    · have hkI : (k : Int) < (L.length : Int) := by omega
      have hkd : decide ((k : Int) < (L.length : Int)) = true := decide_eq_true hkI
      obtain ⟨b1, o1, hpa, hbb, z1, z2, z3, z4, z5, z6⟩ := H.out.2.1 k hlt
      subst hpa
      have hbef := fun h => laid_before (L := L) (x := (n, 1, m, 0, 0, 0)) (n := n) hlt h
      have hnew := fun h hh => laid_at_new (L := L) (x := (n, 1, m, 0, 0, 0)) (n := n) hlt h hh
      have hold := fun h hh => laid_at_old (L := L) (x := (n, 1, m, 0, 0, 0)) (n := n) hlt h hh
      have haft := fun h => laid_after (L := L) (x := (n, 1, m, 0, 0, 0)) (n := n) hlt h
      have hlt1 : k < pos L n → L[k].1 < n := fun h => pos_before h
      have hlt2 : pos L n < k → n < L[k].1 := fun h => after_ne H.out.2.2.1 hlt h
      have hlt3 := fun h => at_pos (L := L) (n := n) hlt h
      obtain ⟨⟨x1, x2, x3, x4, x5, x6⟩, hxk⟩ : ∃ x, x = L[k] := ⟨_, rfl⟩
      rw [← hxk] at z1 z2 z3 z4 z5 z6 hbef hnew haft hlt1 hlt2 hlt3
      have HZ : Hid (_ ∧ _ ∧ _ ∧ _ ∧ _ ∧ _ ∧ _) := ⟨hbb, z1, z2, z3, z4, z5, z6⟩
      have HS : Hid (_ ∧ _) := ⟨hS, hO⟩
      clear hxk z1 z2 z3 z4 z5 z6 hbb hS hO
      rcases Nat.lt_trichotomy k (pos L n) with hlp | hep | hgp
      · have hdd : decide (pos L n < k) = false := decide_eq_false (by omega)
        rw [hdd]
        clear hdd
        have hx1 : x1 < n := hlt1 hlp
        have q1 : decide (n ≤ x1) = false := decide_eq_false (by omega)
        have q2 : (x1 != n) = true := by simp; omega
        have hle := hbef hlp
        have HL : Hid (_ ∧ _) := ⟨hle, (by rw [hle, hj]; simp : j + 1 = (laid L (n, 1, m, 0, 0, 0) n (k + 1)).length)⟩
        have HD : Hid (decide (pos L n < k + 1) = false) := decide_eq_false (by omega)
        have HJ : Hid _ := hj
        clear hle hbef hnew hold haft hlt1 hlt2 hlt3 hj hlp c0 c1 clt d0 d1 df0 df1 dlt
        obtain ⟨c0, c1, _, _, clt⟩ := two_cells HS.out.1.b0
        obtain ⟨d0, d1, df0, df1, dlt⟩ := two_cells HS.out.1.b3
        obtain ⟨a0, a1, a2, a3, a4, a5, alt⟩ := six_cells HS.out.1.b1
        have e1 := (HS.out.1.bel.cell (p := ⟨b1, o1 + k * 6, none⟩) HZ.out.1).trans HZ.out.2.1
        have e2 := (HS.out.1.bel.cell (p := ⟨b1, o1 + k * 6 + 1, none⟩) HZ.out.1).trans HZ.out.2.2.1
        have e3 := (HS.out.1.bel.cell (p := ⟨b1, o1 + k * 6 + 2, none⟩) HZ.out.1).trans HZ.out.2.2.2.1
        have e4 := (HS.out.1.bel.cell (p := ⟨b1, o1 + k * 6 + 3, none⟩) HZ.out.1).trans HZ.out.2.2.2.2.1
        have e5 := (HS.out.1.bel.cell (p := ⟨b1, o1 + k * 6 + 4, none⟩) HZ.out.1).trans HZ.out.2.2.2.2.2.1
        have e6 := (HS.out.1.bel.cell (p := ⟨b1, o1 + k * 6 + 5, none⟩) HZ.out.1).trans HZ.out.2.2.2.2.2.2
        go_wp2_with fail
        refine wp_region_quiet_lit (by kernel_rfl) (by kernel_rfl) ?_
        repeat (first | go_big_quiet_skip | quiet_step (fail))
        refine wpQuiet_nil ?_
        intro _ hw'
        obtain ⟨nq, hw''⟩ := hw'
        subst hw''
        have HS1 : Hid (_ ∧ _) := ⟨HS.out.1.drewN nq, jo_drewN HS.out.2 nq⟩
        generalize wr.drewN nq = W1 at HS1 ⊢
        clear c0 c1 clt d0 d1 df0 df1 dlt a0 a1 a2 a3 a4 a5 alt e1 e2 e3 e4 e5 e6
        obtain ⟨c0, c1, _, _, clt⟩ := two_cells HS1.out.1.b0
        obtain ⟨d0, d1, df0, df1, dlt⟩ := two_cells HS1.out.1.b3
        obtain ⟨a0, a1, a2, a3, a4, a5, alt⟩ := six_cells HS1.out.1.b1
        have e1 := (HS1.out.1.bel.cell (p := ⟨b1, o1 + k * 6, none⟩) HZ.out.1).trans HZ.out.2.1
        have e2 := (HS1.out.1.bel.cell (p := ⟨b1, o1 + k * 6 + 1, none⟩) HZ.out.1).trans HZ.out.2.2.1
        have e3 := (HS1.out.1.bel.cell (p := ⟨b1, o1 + k * 6 + 2, none⟩) HZ.out.1).trans HZ.out.2.2.2.1
        have e4 := (HS1.out.1.bel.cell (p := ⟨b1, o1 + k * 6 + 3, none⟩) HZ.out.1).trans HZ.out.2.2.2.2.1
        have e5 := (HS1.out.1.bel.cell (p := ⟨b1, o1 + k * 6 + 4, none⟩) HZ.out.1).trans HZ.out.2.2.2.2.2.1
        have e6 := (HS1.out.1.bel.cell (p := ⟨b1, o1 + k * 6 + 5, none⟩) HZ.out.1).trans HZ.out.2.2.2.2.2.2
        go_wp2_with fail
        refine wp_region_quiet_lit (by kernel_rfl) (by kernel_rfl) ?_
        repeat (first | go_big_quiet_skip | quiet_step (fail))
        refine wpQuiet_nil ?_
        intro _ hw'
        obtain ⟨nq, hw''⟩ := hw'
        subst hw''
        have HS2 : Hid (_ ∧ _) := ⟨HS1.out.1.drewN nq, jo_drewN HS1.out.2 nq⟩
        generalize W1.drewN nq = W2 at HS2 ⊢
        clear c0 c1 clt d0 d1 df0 df1 dlt a0 a1 a2 a3 a4 a5 alt e1 e2 e3 e4 e5 e6
        obtain ⟨g', c'', w7, hr7, ⟨hc7, hf7⟩, hS7, hO7⟩ := js_step HS2.out.1 HS2.out.2 (by omega) x1 x2 x3 x4 x5 x6
        rw [← HL.out.1] at hO7
        have HR : Hid (_ ∧ _ ∧ _) := ⟨hr7, hS7, hO7⟩
        clear hr7 hS7 hO7
        obtain ⟨c0, c1, _, _, clt⟩ := two_cells HS2.out.1.b0
        obtain ⟨d0, d1, df0, df1, dlt⟩ := two_cells HS2.out.1.b3
        obtain ⟨a0, a1, a2, a3, a4, a5, alt⟩ := six_cells HS2.out.1.b1
        have e1 := (HS2.out.1.bel.cell (p := ⟨b1, o1 + k * 6, none⟩) HZ.out.1).trans HZ.out.2.1
        have e2 := (HS2.out.1.bel.cell (p := ⟨b1, o1 + k * 6 + 1, none⟩) HZ.out.1).trans HZ.out.2.2.1
        have e3 := (HS2.out.1.bel.cell (p := ⟨b1, o1 + k * 6 + 2, none⟩) HZ.out.1).trans HZ.out.2.2.2.1
        have e4 := (HS2.out.1.bel.cell (p := ⟨b1, o1 + k * 6 + 3, none⟩) HZ.out.1).trans HZ.out.2.2.2.2.1
        have e5 := (HS2.out.1.bel.cell (p := ⟨b1, o1 + k * 6 + 4, none⟩) HZ.out.1).trans HZ.out.2.2.2.2.2.1
        have e6 := (HS2.out.1.bel.cell (p := ⟨b1, o1 + k * 6 + 5, none⟩) HZ.out.1).trans HZ.out.2.2.2.2.2.2
        clear a0 a1 a2 a3 a4 a5 alt c1 d1 df1 q1 q2 hx1
        go_wp2
        go_region_law (first | (refine step_append_eq (by rfl) _ _ 22 (by rfl) _ _ _ _ (by rfl) (by rfl) HR.out.1 ?_))
        all_goals
          go_wp2
          go_roundw
          case rel => exact ⟨k + 1, some ⟨g', 0, none⟩, j + 1, c'', by simp, by rw [HD.out], hlt, HL.out.2, by omega, HR.out.2.1, HR.out.2.2⟩
          case measure => simp [intOf]; omega
      · have hdd : decide (pos L n < k) = false := decide_eq_false (by omega)
        rw [hdd]
        clear hdd
        have hx1 : n ≤ x1 := (hlt3 hep).1
        have q1 : decide (n ≤ x1) = true := decide_eq_true hx1
        have HD : Hid (decide (pos L n < k + 1) = true) := decide_eq_true (by omega)
        have hjk2 : j ≤ k := by
          rw [hj]
          unfold laid
          rw [if_pos (by omega), List.length_take]
          omega
        have HN : Hid (_ ∧ _ ∧ _ ∧ _) := ⟨hnew hep, hold hep, (hlt3 hep).2, hj⟩
        clear hbef hnew hold haft hlt1 hlt2 hlt3 hj hep c0 c1 clt d0 d1 df0 df1 dlt
        obtain ⟨c0, c1, _, _, clt⟩ := two_cells HS.out.1.b0
        obtain ⟨d0, d1, df0, df1, dlt⟩ := two_cells HS.out.1.b3
        obtain ⟨a0, a1, a2, a3, a4, a5, alt⟩ := six_cells HS.out.1.b1
        have e1 := (HS.out.1.bel.cell (p := ⟨b1, o1 + k * 6, none⟩) HZ.out.1).trans HZ.out.2.1
        have e2 := (HS.out.1.bel.cell (p := ⟨b1, o1 + k * 6 + 1, none⟩) HZ.out.1).trans HZ.out.2.2.1
        have e3 := (HS.out.1.bel.cell (p := ⟨b1, o1 + k * 6 + 2, none⟩) HZ.out.1).trans HZ.out.2.2.2.1
        have e4 := (HS.out.1.bel.cell (p := ⟨b1, o1 + k * 6 + 3, none⟩) HZ.out.1).trans HZ.out.2.2.2.2.1
        have e5 := (HS.out.1.bel.cell (p := ⟨b1, o1 + k * 6 + 4, none⟩) HZ.out.1).trans HZ.out.2.2.2.2.2.1
        have e6 := (HS.out.1.bel.cell (p := ⟨b1, o1 + k * 6 + 5, none⟩) HZ.out.1).trans HZ.out.2.2.2.2.2.2
        go_wp2_with fail
        refine wp_region_quiet_lit (by kernel_rfl) (by kernel_rfl) ?_
        repeat (first | go_big_quiet_skip | quiet_step (fail))
        refine wpQuiet_nil ?_
        intro _ hw'
        obtain ⟨nq, hw''⟩ := hw'
        subst hw''
        have HS1 : Hid (_ ∧ _) := ⟨HS.out.1.drewN nq, jo_drewN HS.out.2 nq⟩
        generalize wr.drewN nq = W1 at HS1 ⊢
        clear c0 c1 clt d0 d1 df0 df1 dlt a0 a1 a2 a3 a4 a5 alt e1 e2 e3 e4 e5 e6
        obtain ⟨g, c', w5, hr, ⟨hc5, hf5⟩, hS5, hO5⟩ := js_stepP HS1.out.1 HS1.out.2 (by omega) n 1 m 0 0 0
        obtain ⟨w6, hw6⟩ : ∃ w6, w6 = w5.setCell ⟨w.heap.size + 1 + 1 + 1, 0, none⟩ (.slice (some ⟨g, 0, none⟩) (j + 1) c') := ⟨_, rfl⟩
        rw [← hw6] at hS5 hO5
        have HS6 : Hid (_ ∧ _) := ⟨hS5, hO5⟩
        have HRP : Hid _ := hr
        clear hr hS5 hO5
        obtain ⟨c0, c1, _, _, clt⟩ := two_cells HS1.out.1.b0
        obtain ⟨d0, d1, df0, df1, dlt⟩ := two_cells HS1.out.1.b3
        obtain ⟨a0, a1, a2, a3, a4, a5, alt⟩ := six_cells HS1.out.1.b1
        have e1 := (HS1.out.1.bel.cell (p := ⟨b1, o1 + k * 6, none⟩) HZ.out.1).trans HZ.out.2.1
        have e2 := (HS1.out.1.bel.cell (p := ⟨b1, o1 + k * 6 + 1, none⟩) HZ.out.1).trans HZ.out.2.2.1
        have e3 := (HS1.out.1.bel.cell (p := ⟨b1, o1 + k * 6 + 2, none⟩) HZ.out.1).trans HZ.out.2.2.2.1
        have e4 := (HS1.out.1.bel.cell (p := ⟨b1, o1 + k * 6 + 3, none⟩) HZ.out.1).trans HZ.out.2.2.2.2.1
        have e5 := (HS1.out.1.bel.cell (p := ⟨b1, o1 + k * 6 + 4, none⟩) HZ.out.1).trans HZ.out.2.2.2.2.2.1
        have e6 := (HS1.out.1.bel.cell (p := ⟨b1, o1 + k * 6 + 5, none⟩) HZ.out.1).trans HZ.out.2.2.2.2.2.2
        go_wp2_with (at_builtin; (with_reducible refine wpList_append_eq rfl _ _ 22 rfl (.slice p j c) (.slice (some ⟨W1.heap.size, 0, none⟩) 1 1) (.slice (some ⟨g, 0, none⟩) (j + 1) c') w5 ?hs ?hx ?hr ?_); (case hs => rfl); (case hx => rfl); (case hr => exact HRP.out))
        rw [← hw6]
        clear hw6 c0 c1 clt d0 d1 df0 df1 dlt a0 a1 a2 a3 a4 a5 alt e1 e2 e3 e4 e5 e6 hc5 hf5
        obtain ⟨c0, c1, _, _, clt⟩ := two_cells HS6.out.1.b0
        obtain ⟨d0, d1, df0, df1, dlt⟩ := two_cells HS6.out.1.b3
        obtain ⟨a0, a1, a2, a3, a4, a5, alt⟩ := six_cells HS6.out.1.b1
        have e1 := (HS6.out.1.bel.cell (p := ⟨b1, o1 + k * 6, none⟩) HZ.out.1).trans HZ.out.2.1
        have e2 := (HS6.out.1.bel.cell (p := ⟨b1, o1 + k * 6 + 1, none⟩) HZ.out.1).trans HZ.out.2.2.1
        have e3 := (HS6.out.1.bel.cell (p := ⟨b1, o1 + k * 6 + 2, none⟩) HZ.out.1).trans HZ.out.2.2.2.1
        have e4 := (HS6.out.1.bel.cell (p := ⟨b1, o1 + k * 6 + 3, none⟩) HZ.out.1).trans HZ.out.2.2.2.2.1
        have e5 := (HS6.out.1.bel.cell (p := ⟨b1, o1 + k * 6 + 4, none⟩) HZ.out.1).trans HZ.out.2.2.2.2.2.1
        have e6 := (HS6.out.1.bel.cell (p := ⟨b1, o1 + k * 6 + 5, none⟩) HZ.out.1).trans HZ.out.2.2.2.2.2.2
        obtain ⟨j1, hj1⟩ : ∃ j1, j1 = j + 1 := ⟨_, rfl⟩
        rw [← hj1] at HS6 d0 ⊢
        have HJ1 : Hid _ := hj1
        have hj1k : j1 ≤ k + 1 := by omega
        clear hj1
        cases hh : here L n
        · have hne : x1 ≠ n := fun h => by have := HN.out.2.2.1.2 h; rw [hh] at this; cases this
          have q2 : (x1 != n) = true := by simpa using hne
          have hle := HN.out.1 hh
          have HL : Hid (_ ∧ _) := ⟨hle, (by rw [hle, HJ1.out, HN.out.2.2.2]; simp : j1 + 1 = (laid L (n, 1, m, 0, 0, 0) n (k + 1)).length)⟩
          clear hle hne hh
          go_wp2_with fail
          refine wp_region_quiet_lit (by kernel_rfl) (by kernel_rfl) ?_
          repeat (first | go_big_quiet_skip | quiet_step (fail))
          refine wpQuiet_nil ?_
          intro _ hw'
          obtain ⟨nq, hw''⟩ := hw'
          subst hw''
          have HS2 : Hid (_ ∧ _) := ⟨HS6.out.1.drewN nq, jo_drewN HS6.out.2 nq⟩
          generalize w6.drewN nq = W2 at HS2 ⊢
          clear c0 c1 clt d0 d1 df0 df1 dlt a0 a1 a2 a3 a4 a5 alt e1 e2 e3 e4 e5 e6
          obtain ⟨g', c'', w7, hr7, ⟨hc7, hf7⟩, hS7, hO7⟩ := js_step HS2.out.1 HS2.out.2 (by omega) x1 x2 x3 x4 x5 x6
          rw [← HL.out.1] at hO7
          have HR : Hid (_ ∧ _ ∧ _) := ⟨hr7, hS7, hO7⟩
          clear hr7 hS7 hO7
          obtain ⟨c0, c1, _, _, clt⟩ := two_cells HS2.out.1.b0
          obtain ⟨d0, d1, df0, df1, dlt⟩ := two_cells HS2.out.1.b3
          obtain ⟨a0, a1, a2, a3, a4, a5, alt⟩ := six_cells HS2.out.1.b1
          have e1 := (HS2.out.1.bel.cell (p := ⟨b1, o1 + k * 6, none⟩) HZ.out.1).trans HZ.out.2.1
          have e2 := (HS2.out.1.bel.cell (p := ⟨b1, o1 + k * 6 + 1, none⟩) HZ.out.1).trans HZ.out.2.2.1
          have e3 := (HS2.out.1.bel.cell (p := ⟨b1, o1 + k * 6 + 2, none⟩) HZ.out.1).trans HZ.out.2.2.2.1
          have e4 := (HS2.out.1.bel.cell (p := ⟨b1, o1 + k * 6 + 3, none⟩) HZ.out.1).trans HZ.out.2.2.2.2.1
          have e5 := (HS2.out.1.bel.cell (p := ⟨b1, o1 + k * 6 + 4, none⟩) HZ.out.1).trans HZ.out.2.2.2.2.2.1
          have e6 := (HS2.out.1.bel.cell (p := ⟨b1, o1 + k * 6 + 5, none⟩) HZ.out.1).trans HZ.out.2.2.2.2.2.2
          clear a0 a1 a2 a3 a4 a5 alt c1 d1 df1 q1 q2 hx1
          go_wp2
          go_region_law (first | (refine step_append_eq (by rfl) _ _ 22 (by rfl) _ _ _ _ (by rfl) (by rfl) HR.out.1 ?_))
          all_goals
            go_wp2
            go_roundw
            case rel => exact ⟨k + 1, some ⟨g', 0, none⟩, j1 + 1, c'', by simp, by rw [HD.out], hlt, HL.out.2, by omega, HR.out.2.1, HR.out.2.2⟩
            case measure => simp [intOf]; omega
        · have hne : x1 = n := HN.out.2.2.1.1 hh
          have q2 : (x1 != n) = false := by simpa using hne
          have hle := HN.out.2.1 hh
          have HL : Hid (_ ∧ _) := ⟨hle, (by rw [hle, HJ1.out, HN.out.2.2.2]; simp : j1 = (laid L (n, 1, m, 0, 0, 0) n (k + 1)).length)⟩
          clear hle hne hh
          go_wp2_with fail
          refine wp_region_quiet_lit (by kernel_rfl) (by kernel_rfl) ?_
          repeat (first | go_big_quiet_skip | quiet_step (fail))
          refine wpQuiet_nil ?_
          intro _ hw'
          obtain ⟨nq, hw''⟩ := hw'
          subst hw''
          have HS2 : Hid (_ ∧ _) := ⟨HS6.out.1.drewN nq, jo_drewN HS6.out.2 nq⟩
          generalize w6.drewN nq = W2 at HS2 ⊢
          clear c0 c1 clt d0 d1 df0 df1 dlt a0 a1 a2 a3 a4 a5 alt e1 e2 e3 e4 e5 e6
          go_wp2
          go_roundw
          case rel => exact ⟨k + 1, some ⟨g, 0, none⟩, j1, c', by simp, by rw [HD.out], hlt, HL.out.2, by omega, HS2.out.1, by rw [HL.out.1]; exact HS2.out.2⟩
          case measure => simp [intOf]; omega
      · have hdd : decide (pos L n < k) = true := decide_eq_true (by omega)
        rw [hdd]
        clear hdd
        have hx1 : n < x1 := hlt2 hgp
        have q2 : (x1 != n) = true := by simp; omega
        have hle := haft hgp
        have HL : Hid (_ ∧ _) := ⟨hle, (by rw [hle, hj]; simp : j + 1 = (laid L (n, 1, m, 0, 0, 0) n (k + 1)).length)⟩
        have HD : Hid (decide (pos L n < k + 1) = true) := decide_eq_true (by omega)
        have HJ : Hid _ := hj
        clear hle hbef hnew hold haft hlt1 hlt2 hlt3 hj hgp c0 c1 clt d0 d1 df0 df1 dlt
        obtain ⟨c0, c1, _, _, clt⟩ := two_cells HS.out.1.b0
        obtain ⟨d0, d1, df0, df1, dlt⟩ := two_cells HS.out.1.b3
        obtain ⟨a0, a1, a2, a3, a4, a5, alt⟩ := six_cells HS.out.1.b1
        have e1 := (HS.out.1.bel.cell (p := ⟨b1, o1 + k * 6, none⟩) HZ.out.1).trans HZ.out.2.1
        have e2 := (HS.out.1.bel.cell (p := ⟨b1, o1 + k * 6 + 1, none⟩) HZ.out.1).trans HZ.out.2.2.1
        have e3 := (HS.out.1.bel.cell (p := ⟨b1, o1 + k * 6 + 2, none⟩) HZ.out.1).trans HZ.out.2.2.2.1
        have e4 := (HS.out.1.bel.cell (p := ⟨b1, o1 + k * 6 + 3, none⟩) HZ.out.1).trans HZ.out.2.2.2.2.1
        have e5 := (HS.out.1.bel.cell (p := ⟨b1, o1 + k * 6 + 4, none⟩) HZ.out.1).trans HZ.out.2.2.2.2.2.1
        have e6 := (HS.out.1.bel.cell (p := ⟨b1, o1 + k * 6 + 5, none⟩) HZ.out.1).trans HZ.out.2.2.2.2.2.2
        go_wp2_with fail
        refine wp_region_quiet_lit (by kernel_rfl) (by kernel_rfl) ?_
        repeat (first | go_big_quiet_skip | quiet_step (fail))
        refine wpQuiet_nil ?_
        intro _ hw'
        obtain ⟨nq, hw''⟩ := hw'
        subst hw''
        have HS1 : Hid (_ ∧ _) := ⟨HS.out.1.drewN nq, jo_drewN HS.out.2 nq⟩
        generalize wr.drewN nq = W1 at HS1 ⊢
        clear c0 c1 clt d0 d1 df0 df1 dlt a0 a1 a2 a3 a4 a5 alt e1 e2 e3 e4 e5 e6
        obtain ⟨c0, c1, _, _, clt⟩ := two_cells HS1.out.1.b0
        obtain ⟨d0, d1, df0, df1, dlt⟩ := two_cells HS1.out.1.b3
        obtain ⟨a0, a1, a2, a3, a4, a5, alt⟩ := six_cells HS1.out.1.b1
        have e1 := (HS1.out.1.bel.cell (p := ⟨b1, o1 + k * 6, none⟩) HZ.out.1).trans HZ.out.2.1
        have e2 := (HS1.out.1.bel.cell (p := ⟨b1, o1 + k * 6 + 1, none⟩) HZ.out.1).trans HZ.out.2.2.1
        have e3 := (HS1.out.1.bel.cell (p := ⟨b1, o1 + k * 6 + 2, none⟩) HZ.out.1).trans HZ.out.2.2.2.1
        have e4 := (HS1.out.1.bel.cell (p := ⟨b1, o1 + k * 6 + 3, none⟩) HZ.out.1).trans HZ.out.2.2.2.2.1
        have e5 := (HS1.out.1.bel.cell (p := ⟨b1, o1 + k * 6 + 4, none⟩) HZ.out.1).trans HZ.out.2.2.2.2.2.1
        have e6 := (HS1.out.1.bel.cell (p := ⟨b1, o1 + k * 6 + 5, none⟩) HZ.out.1).trans HZ.out.2.2.2.2.2.2
        go_wp2_with fail
        refine wp_region_quiet_lit (by kernel_rfl) (by kernel_rfl) ?_
        repeat (first | go_big_quiet_skip | quiet_step (fail))
        refine wpQuiet_nil ?_
        intro _ hw'
        obtain ⟨nq, hw''⟩ := hw'
        subst hw''
        have HS2 : Hid (_ ∧ _) := ⟨HS1.out.1.drewN nq, jo_drewN HS1.out.2 nq⟩
        generalize W1.drewN nq = W2 at HS2 ⊢
        clear c0 c1 clt d0 d1 df0 df1 dlt a0 a1 a2 a3 a4 a5 alt e1 e2 e3 e4 e5 e6
        obtain ⟨g', c'', w7, hr7, ⟨hc7, hf7⟩, hS7, hO7⟩ := js_step HS2.out.1 HS2.out.2 (by omega) x1 x2 x3 x4 x5 x6
        rw [← HL.out.1] at hO7
        have HR : Hid (_ ∧ _ ∧ _) := ⟨hr7, hS7, hO7⟩
        clear hr7 hS7 hO7
        obtain ⟨c0, c1, _, _, clt⟩ := two_cells HS2.out.1.b0
        obtain ⟨d0, d1, df0, df1, dlt⟩ := two_cells HS2.out.1.b3
        obtain ⟨a0, a1, a2, a3, a4, a5, alt⟩ := six_cells HS2.out.1.b1
        have e1 := (HS2.out.1.bel.cell (p := ⟨b1, o1 + k * 6, none⟩) HZ.out.1).trans HZ.out.2.1
        have e2 := (HS2.out.1.bel.cell (p := ⟨b1, o1 + k * 6 + 1, none⟩) HZ.out.1).trans HZ.out.2.2.1
        have e3 := (HS2.out.1.bel.cell (p := ⟨b1, o1 + k * 6 + 2, none⟩) HZ.out.1).trans HZ.out.2.2.2.1
        have e4 := (HS2.out.1.bel.cell (p := ⟨b1, o1 + k * 6 + 3, none⟩) HZ.out.1).trans HZ.out.2.2.2.2.1
        have e5 := (HS2.out.1.bel.cell (p := ⟨b1, o1 + k * 6 + 4, none⟩) HZ.out.1).trans HZ.out.2.2.2.2.2.1
        have e6 := (HS2.out.1.bel.cell (p := ⟨b1, o1 + k * 6 + 5, none⟩) HZ.out.1).trans HZ.out.2.2.2.2.2.2
        clear a0 a1 a2 a3 a4 a5 alt c1 d1 df1 q2 hx1
        go_wp2
        go_region_law (first | (refine step_append_eq (by rfl) _ _ 22 (by rfl) _ _ _ _ (by rfl) (by rfl) HR.out.1 ?_))
        all_goals
          go_wp2
          go_roundw
          case rel => exact ⟨k + 1, some ⟨g', 0, none⟩, j + 1, c'', by simp, by rw [HD.out], hlt, HL.out.2, by omega, HR.out.2.1, HR.out.2.2⟩
          case measure => simp [intOf]; omega
    · have hkd : ¬ ((k : Int) < (L.length : Int)) := by omega
      obtain rfl : k = L.length := by omega
      by_cases hp : pos L n < L.length
      · have hdd : decide (pos L n < L.length) = true := decide_eq_true hp
        rw [hdd]
        clear hdd
        rw [laid_end hp, ← H.out.2.2.2] at hO hj
        subst hj
        obtain ⟨r0, r1, rf0, rf1, rlt⟩ := two_cells hS.b2
        have HF : Hid (_ ∧ _ ∧ _) := ⟨two_set (a := .slice none 0 0) (b := .slice none 0 0) (c := .slice p J.length c) (d := .slice pb R.length cb) hS.b2, own_block (hO.mono (by omega : w.heap.size ≤ w.heap.size + 4)) (w' := set2 wr (w.heap.size + 1 + 1) (.slice p J.length c) (.slice pb R.length cb)) (fun b hb => set2_other (by have := (hO.lt b hb).1; omega)), below_set2 (h := w.heap.size + 1 + 1) (a := .slice p J.length c) (b := .slice pb R.length cb) hS.bel (by omega)⟩
        clear hS hO hp
        go_wp2
        exact bodyPost_ret (v := bkV (.slice p J.length c) (.slice pb R.length cb)) (results_c Try.results36 rfl (load_bk HF.out.1)) rfl ⟨p, c, rfl, HF.out.2.1, HF.out.2.2⟩
      · have hdd : decide (pos L n < L.length) = false := decide_eq_false hp
        rw [hdd]
        clear hdd
        have hpe : pos L n = L.length := by have := pos_le L n; omega
        have hfin := laid_none (x := (n, 1, m, 0, 0, 0)) hpe
        rw [← H.out.2.2.2] at hfin
        obtain ⟨g, c', w5, hr, ⟨hc5, hf5⟩, hS5, hO5⟩ := js_stepP hS hO (by omega) n 1 m 0 0 0
        rw [hfin] at hO5
        have hjl : j + 1 = J.length := by rw [← hfin, hj]; simp
        obtain ⟨a0, a1, a2, a3, a4, a5, alt⟩ := six_cells hS.b1
        obtain ⟨w6, hw6⟩ : ∃ w6, w6 = w5.setCell ⟨w.heap.size + 1 + 1 + 1, 0, none⟩ (.slice (some ⟨g, 0, none⟩) (j + 1) c') := ⟨_, rfl⟩
        rw [← hw6] at hS5 hO5
        obtain ⟨u0, u1, _, _, ult⟩ := two_cells hS5.b3
        obtain ⟨r0, r1, rf0, rf1, rlt⟩ := two_cells hS5.b2
        have HF : Hid (_ ∧ _ ∧ _ ∧ _ ∧ _) := ⟨hr, two_set (a := .slice none 0 0) (b := .slice none 0 0) (c := .slice (some ⟨g, 0, none⟩) (j + 1) c') (d := .slice pb R.length cb) hS5.b2, own_block (hO5.mono (by omega : w.heap.size ≤ w.heap.size + 4)) (w' := set2 w6 (w.heap.size + 1 + 1) (.slice (some ⟨g, 0, none⟩) (j + 1) c') (.slice pb R.length cb)) (fun b hb => set2_other (by have := (hO5.lt b hb).1; omega)), below_set2 (h := w.heap.size + 1 + 1) (a := .slice (some ⟨g, 0, none⟩) (j + 1) c') (b := .slice pb R.length cb) hS5.bel (by omega), hjl⟩
        rw [hw6] at u0 u1 ult r0 r1 rf0 rf1 rlt
        clear hr hS hO hS5 hO5 hp hpe hfin hjl hj
        go_wp2_with (at_builtin; (with_reducible refine wpList_append_eq rfl _ _ 22 rfl (.slice p j c) (.slice (some ⟨wr.heap.size, 0, none⟩) 1 1) (.slice (some ⟨g, 0, none⟩) (j + 1) c') w5 ?hs ?hx ?hr ?_); (case hs => rfl); (case hx => rfl); (case hr => exact HF.out.1))
        go_wp2
        rw [← hw6]
        exact bodyPost_ret (v := bkV (.slice (some ⟨g, 0, none⟩) (j + 1) c') (.slice pb R.length cb)) (results_c Try.results36 rfl (load_bk HF.out.2.1)) rfl ⟨some ⟨g, 0, none⟩, c', by rw [HF.out.2.2.2.2], by rw [← HF.out.2.2.2.2]; exact HF.out.2.2.1, HF.out.2.2.2.1⟩
end Go.Proofs.Ytlpedligkofegaa.Walks
