/-
  picker's small functions: takesSomething, the closures, and slices.IndexFunc, ContainsFunc at them. Condition: what is read can be read.
-/
import Derived.Test.YtjkiahdeaeiopaaPickP
import Derived.WalkKit
import Derived.ProofKit
import Derived.Handy
import Derived.LoopTactic
import Derived.Below
import Derived.Laws.BitsAllLaws
import Derived.RegionTactic
import Derived.Deep.RegionHeld3
import Derived.Deep.DrawnRows
import Derived.Deep.AppendLies
import Derived.Laws.OwnMore
import Derived.Deep.Onto
import Derived.Deep.QuietTactic
import Derived.BigQuiet
namespace Go.Proofs.Ytjkiahdeaeiopaa.Walks
open Go.RowKit
set_option linter.unusedVariables false
set_option linter.unusedSimpArgs false
attribute [local go_sem ↓] Go.wp_at_zero Go.wp_at_succ

set_option maxHeartbeats 1000000 in
theorem takes_any (x1 x2 x3 : Int) (w : World) :
    Calls Try.prog 23 #[.agg #[.int .i64 x1, .int .i64 x2, .int .i64 x3]] w fun r w' => r = .returned (.bool (takesB (x1, x2, x3))) ∧ Below w.heap.size w w' := by
  have ho : takesB (x1, x2, x3) = (x2 != 0) := rfl
  obtain ⟨ans, hans⟩ : ∃ ans, ans = takesB (x1, x2, x3) := ⟨_, rfl⟩
  rw [← hans] at ho ⊢
  have H : Hid _ := ho
  clear ho hans
  go_enter Try.func23, Try.ntmps23
  go_wp2
  go_ret
  exact ⟨by rw [H.out]; rfl, below_newL w⟩

set_option maxHeartbeats 2000000 in
theorem mine_any (x1 x2 x3 bk : Int) (g : Nat) (w : World) (hc : w.cell? ⟨g, 0, none⟩ = some (.int .i64 bk)) :
    Calls Try.prog 35 #[.agg #[.int .i64 x1, .int .i64 x2, .int .i64 x3], .pointer (some ⟨g, 0, none⟩)] w fun r w' => r = .returned (.bool (mineB bk (x1, x2, x3))) ∧ Below w.heap.size w w' := by
  have hlt : g < w.heap.size := World.block_lt_of_cell? w ⟨g, 0, none⟩ hc
  have ho : mineB bk (x1, x2, x3) = ((x1 == bk) && takesB (x1, x2, x3)) := rfl
  obtain ⟨ans, hans⟩ : ∃ ans, ans = mineB bk (x1, x2, x3) := ⟨_, rfl⟩
  rw [← hans] at ho ⊢
  have H : Hid _ := ho
  clear ho hans
  cases h : (x1 == bk)
  · have E : Hid (ans = false) := by rw [H.out, h]; rfl
    clear H
    go_enter Try.func35, Try.ntmps35
    go_wp2
    go_ret
    exact ⟨by rw [E.out]; rfl, below_newL w⟩
  · have E : Hid (ans = takesB (x1, x2, x3)) := by rw [H.out, h]; rfl
    obtain rfl : x1 = bk := by simpa using h
    clear H h
    go_enter Try.func35, Try.ntmps35
    go_wp2_with fail
    refine (takes_any _ _ _ _).mono ?_
    rw [← E.out]
    rintro r w1 ⟨rfl, hb1⟩
    have HB : Hid _ := (below_newL w).trans (hb1.mono (by simp))
    clear hb1
    go_wp2
    go_ret
    exact ⟨rfl, HB.out⟩

set_option maxHeartbeats 2000000 in
theorem index_takes (v : Value) (l : List Ld) (w : World) (hv : LdAt w v l) :
    Calls Try.prog 34 #[v, .func (.func 23) #[] #[]] w fun r w' => r = .returned (.int .i64 (idxOf (find takesB l))) ∧ Below w.heap.size w w' := by
  obtain ⟨q, hq0⟩ : ∃ q, q = takesB := ⟨_, rfl⟩
  obtain ⟨a, ca, rfl, hca, hma, pa⟩ := hv.parts
  unfold maxLen at hma
  have HQ : Hid (∀ (x1 x2 x3 : Int) (W : World), Calls Try.prog 23 #[.agg #[.int .i64 x1, .int .i64 x2, .int .i64 x3]] W fun r w' => r = .returned (.bool (q (x1, x2, x3))) ∧ Below W.heap.size W w') := by rw [hq0]; exact fun x1 x2 x3 W => takes_any x1 x2 x3 W
  rw [← hq0]
  obtain ⟨ans, hans⟩ : ∃ ans, ans = idxOf (find q l) := ⟨_, rfl⟩
  rw [← hans]
  have H : Hid _ := hans
  clear hv hans hq0
  go_enter Try.func34, Try.ntmps34
  go_wp2
  go_loopw [8] (fun i wr => ∃ k : Nat, i = .int .i64 k ∧ k ≤ l.length ∧ (∀ t ∈ l.take k, q t = false) ∧ Below w.heap.size w wr) (fun i _ => l.length - (intOf i).toNat)
  case atStart => exact ⟨0, rfl, Nat.zero_le _, by simp, Below.refl _ _⟩
  case round =>
    obtain ⟨k, rfl, hk, hall, hbr⟩ := hrel
    by_cases hlt : k < l.length
    · obtain ⟨b1, o1, rfl, hb1, c1, c2, c3⟩ := pa k hlt
      have e1 := (hbr.cell (p := ⟨b1, o1 + k * 3, none⟩) hb1).trans c1
      have e2 := (hbr.cell (p := ⟨b1, o1 + k * 3 + 1, none⟩) hb1).trans c2
      have e3 := (hbr.cell (p := ⟨b1, o1 + k * 3 + 2, none⟩) hb1).trans c3
      have HA : Hid (_ ∧ _) := ⟨hall, hbr⟩
      have hkI : (k : Int) < (l.length : Int) := by omega
      have htk : l.take (k + 1) = l.take k ++ [l[k]] := List.take_succ_eq_append_getElem hlt
      have hfs : q l[k] = true → find q l = some k := fun h => find_some hlt hall h
      have hxk : ∃ x, x = l[k] := ⟨_, rfl⟩
      obtain ⟨⟨x1, x2, x3⟩, hxk⟩ := hxk
      rw [← hxk] at e1 e2 e3 htk hfs
      have HX : Hid (_ ∧ _) := ⟨htk, hfs⟩
      clear hall hbr c1 c2 c3 hb1 pa htk hfs hxk
      cases hd : q (x1, x2, x3)
      · go_wp2_with fail
        refine (HQ.out x1 x2 x3 _).mono ?_
        rw [hd]
        rintro r w2 ⟨rfl, hb2⟩
        have H2 : Hid _ := hb2
        clear hb2
        go_wp2
        go_roundw
        case rel =>
          refine ⟨k + 1, by simp, hlt, fun t ht => ?_, HA.out.2.trans (H2.out.mono HA.out.2.size)⟩
          rw [HX.out.1] at ht
          rcases List.mem_append.1 ht with ht | ht
          · exact HA.out.1 t ht
          · simp at ht
            rw [ht]
            exact hd
        case measure => simp [intOf]; omega
      · go_wp2_with fail
        refine (HQ.out x1 x2 x3 _).mono ?_
        rw [hd]
        rintro r w2 ⟨rfl, hb2⟩
        have HE : Hid (ans = (k : Int)) := by show ans = _; rw [H.out, HX.out.2 hd]; rfl
        have H2 : Hid _ := hb2
        clear hb2
        go_wp2
        go_ret
        exact ⟨by rw [HE.out]; rfl, HA.out.2.trans (H2.out.mono HA.out.2.size)⟩
    · have HE : Hid (ans = -1) := by
        show ans = _
        rw [H.out, find_none fun t ht => hall t (by rw [List.take_of_length_le (by omega)]; exact ht)]
        rfl
      have HB : Hid _ := hbr
      clear hall hbr pa
      go_wp2
      go_ret
      exact ⟨by rw [HE.out]; rfl, HB.out⟩

set_option maxHeartbeats 2000000 in
theorem index_mine (v : Value) (l : List Ld) (bk : Int) (g : Nat) (w : World) (hv : LdAt w v l) (hc : w.cell? ⟨g, 0, none⟩ = some (.int .i64 bk)) :
    Calls Try.prog 34 #[v, .func (.func 35) #[] #[.pointer (some ⟨g, 0, none⟩)]] w fun r w' => r = .returned (.int .i64 (idxOf (find (mineB bk) l))) ∧ Below w.heap.size w w' := by
  obtain ⟨q, hq0⟩ : ∃ q, q = mineB bk := ⟨_, rfl⟩
  obtain ⟨a, ca, rfl, hca, hma, pa⟩ := hv.parts
  unfold maxLen at hma
  have hglt := World.block_lt_of_cell? w ⟨g, 0, none⟩ hc
  have HQ : Hid (∀ (x1 x2 x3 : Int) (W : World), Below w.heap.size w W → Calls Try.prog 35 #[.agg #[.int .i64 x1, .int .i64 x2, .int .i64 x3], .pointer (some ⟨g, 0, none⟩)] W fun r w' => r = .returned (.bool (q (x1, x2, x3))) ∧ Below W.heap.size W w') := by
    rw [hq0]
    exact fun x1 x2 x3 W hb => mine_any x1 x2 x3 bk g W ((hb.cell (p := ⟨g, 0, none⟩) hglt).trans hc)
  rw [← hq0]
  obtain ⟨ans, hans⟩ : ∃ ans, ans = idxOf (find q l) := ⟨_, rfl⟩
  rw [← hans]
  have H : Hid _ := hans
  clear hv hans hq0 hc
  go_enter Try.func34, Try.ntmps34
  go_wp2
  go_loopw [8] (fun i wr => ∃ k : Nat, i = .int .i64 k ∧ k ≤ l.length ∧ (∀ t ∈ l.take k, q t = false) ∧ Below w.heap.size w wr) (fun i _ => l.length - (intOf i).toNat)
  case atStart => exact ⟨0, rfl, Nat.zero_le _, by simp, Below.refl _ _⟩
  case round =>
    obtain ⟨k, rfl, hk, hall, hbr⟩ := hrel
    by_cases hlt : k < l.length
    · obtain ⟨b1, o1, rfl, hb1, c1, c2, c3⟩ := pa k hlt
      have e1 := (hbr.cell (p := ⟨b1, o1 + k * 3, none⟩) hb1).trans c1
      have e2 := (hbr.cell (p := ⟨b1, o1 + k * 3 + 1, none⟩) hb1).trans c2
      have e3 := (hbr.cell (p := ⟨b1, o1 + k * 3 + 2, none⟩) hb1).trans c3
      have HA : Hid (_ ∧ _) := ⟨hall, hbr⟩
      have hkI : (k : Int) < (l.length : Int) := by omega
      have htk : l.take (k + 1) = l.take k ++ [l[k]] := List.take_succ_eq_append_getElem hlt
      have hfs : q l[k] = true → find q l = some k := fun h => find_some hlt hall h
      have hxk : ∃ x, x = l[k] := ⟨_, rfl⟩
      obtain ⟨⟨x1, x2, x3⟩, hxk⟩ := hxk
      rw [← hxk] at e1 e2 e3 htk hfs
      have HX : Hid (_ ∧ _) := ⟨htk, hfs⟩
      clear hall hbr c1 c2 c3 hb1 pa htk hfs hxk
      cases hd : q (x1, x2, x3)
      · go_wp2_with fail
        refine (HQ.out x1 x2 x3 _ HA.out.2).mono ?_
        rw [hd]
        rintro r w2 ⟨rfl, hb2⟩
        have H2 : Hid _ := hb2
        clear hb2
        go_wp2
        go_roundw
        case rel =>
          refine ⟨k + 1, by simp, hlt, fun t ht => ?_, HA.out.2.trans (H2.out.mono HA.out.2.size)⟩
          rw [HX.out.1] at ht
          rcases List.mem_append.1 ht with ht | ht
          · exact HA.out.1 t ht
          · simp at ht
            rw [ht]
            exact hd
        case measure => simp [intOf]; omega
      · go_wp2_with fail
        refine (HQ.out x1 x2 x3 _ HA.out.2).mono ?_
        rw [hd]
        rintro r w2 ⟨rfl, hb2⟩
        have HE : Hid (ans = (k : Int)) := by show ans = _; rw [H.out, HX.out.2 hd]; rfl
        have H2 : Hid _ := hb2
        clear hb2
        go_wp2
        go_ret
        exact ⟨by rw [HE.out]; rfl, HA.out.2.trans (H2.out.mono HA.out.2.size)⟩
    · have HE : Hid (ans = -1) := by
        show ans = _
        rw [H.out, find_none fun t ht => hall t (by rw [List.take_of_length_le (by omega)]; exact ht)]
        rfl
      have HB : Hid _ := hbr
      clear hall hbr pa
      go_wp2
      go_ret
      exact ⟨by rw [HE.out]; rfl, HB.out⟩

theorem find_any {l : List Ld} : l.any takesB = decide (0 ≤ idxOf (find takesB l)) := by
  cases h : find takesB l with
  | none =>
    rw [show l.any takesB = false from List.any_eq_false.2 fun x hx => by simp [find_not h x hx]]
    rfl
  | some k =>
    obtain ⟨h1, h2⟩ := find_is h
    rw [show l.any takesB = true from List.any_eq_true.2 ⟨l[k], List.getElem_mem h1, h2⟩]
    exact (decide_eq_true (show (0 : Int) ≤ idxOf (some k) from Int.natCast_nonneg k)).symm

set_option maxHeartbeats 1000000 in
theorem contains_any (v : Value) (l : List Ld) (w : World) (hv : LdAt w v l) :
    Calls Try.prog 22 #[v, .func (.func 23) #[] #[]] w fun r w' => r = .returned (.bool (l.any takesB)) ∧ Below w.heap.size w w' := by
  obtain ⟨a, ca, rfl, _, _, _⟩ := hv.parts
  have HV : Hid (_ ∧ _) := ⟨hv, find_any (l := l)⟩
  clear hv
  obtain ⟨ans, hans⟩ : ∃ ans, ans = l.any takesB := ⟨_, rfl⟩
  rw [← hans] at HV ⊢
  clear hans
  go_enter Try.func22, Try.ntmps22
  go_wp2_with fail
  refine (index_takes _ l _ HV.out.1).mono ?_
  obtain ⟨i, hi⟩ : ∃ i, i = idxOf (find takesB l) := ⟨_, rfl⟩
  rw [← hi] at HV ⊢
  clear hi
  rintro r w1 ⟨rfl, hb1⟩
  have HB : Hid _ := hb1
  clear hb1
  go_wp2
  go_ret
  exact ⟨by rw [HV.out.2]; rfl, HB.out⟩

/-- What the closure hasRoom reads: the boxes of l and of caps. -/
def Env (w : World) (gl gc : Nat) (v u : Value) (l : List Ld) (m : List Int) : Prop :=
  w.cell? ⟨gl, 0, none⟩ = some v ∧ w.cell? ⟨gc, 0, none⟩ = some u ∧ LdAt w v l ∧ IntsAt w u m

theorem Env.below {w w' : World} {gl gc : Nat} {v u : Value} {l : List Ld} {m : List Int} (h : Env w gl gc v u l m) (hb : Below w.heap.size w w') : Env w' gl gc v u l m :=
  ⟨(hb.cell (p := ⟨gl, 0, none⟩) (World.block_lt_of_cell? w ⟨gl, 0, none⟩ h.1)).trans h.1, (hb.cell (p := ⟨gc, 0, none⟩) (World.block_lt_of_cell? w ⟨gc, 0, none⟩ h.2.1)).trans h.2.1, h.2.2.1.below hb, h.2.2.2.below hb⟩

set_option maxHeartbeats 2000000 in
theorem room_any (i : Nat) (gl gc : Nat) (v u : Value) (l : List Ld) (m : List Int) (w : World) (he : Env w gl gc v u l m) (hml : m.length = l.length) (hi : i < l.length) :
    Calls Try.prog 24 #[.int .i64 (i : Int), .pointer (some ⟨gl, 0, none⟩), .pointer (some ⟨gc, 0, none⟩)] w fun r w' => r = .returned (.bool (roomB l m i)) ∧ Below w.heap.size w w' := by
  obtain ⟨h1, h2, hv, hu⟩ := he
  obtain ⟨p, c, rfl, hc, hm, pa⟩ := hv.parts
  obtain ⟨p2, c2, rfl, hc2, hm2, pb⟩ := hu.parts
  obtain ⟨b1, o1, rfl, hb1, _, _, d3⟩ := pa i hi
  obtain ⟨b2, o2, rfl, hb2, d4⟩ := pb i (by omega)
  unfold maxLen at hm hm2
  have e : roomB l m i = decide (l[i].2.2 < m[i]'(by omega)) := by
    unfold roomB
    simp [hi, show i < m.length by omega]
  rw [e]
  generalize l[i].2.2 = f at *
  generalize (m[i]'(by omega)) = cp at *
  have hil : (i : Int) < (l.length : Int) := by omega
  have him : (i : Int) < (m.length : Int) := by omega
  clear e pa pb hv hu hb1 hb2 hml
  go_enter Try.func24, Try.ntmps24
  go_wp2
  go_region
  go_wp2
  go_ret
  exact ⟨rfl, (Below.refl _ _).drew⟩
end Go.Proofs.Ytjkiahdeaeiopaa.Walks
