/-
  PickLone: a backend that is alone is picked. No condition.
-/
import Derived.Test.YtjkiahdeaeiopaaKeepP
import Derived.WalkKit
import Derived.ProofKit
import Derived.Handy
import Derived.LoopTactic
import Derived.Below
import Derived.Laws.BitsAllLaws
import Derived.RegionTactic
import Derived.Deep.RegionHeld3
import Derived.Deep.DrawnRows
import Derived.Deep.AppendLies
import Derived.Laws.OwnMore
import Derived.Deep.Onto
import Derived.Deep.QuietTactic
import Derived.BigQuiet
namespace Go.Proofs.Ytjkiahdeaeiopaa.Walks
open Go.RowKit
set_option linter.unusedVariables false
set_option linter.unusedSimpArgs false
attribute [local go_sem ↓] Go.wp_at_zero Go.wp_at_succ

theorem lone_ok {x : Ld} (h : LdOk x) (h1 : 0 ≤ x.1) (h2 : x.1 < 12) : LOk [x] := ⟨by simp, okFrom_cons.2 ⟨⟨h1, h2, h⟩, rfl⟩⟩

theorem lone_out {x : Ld} {a b f t : Int} {ws : List Int} (h : LdOk x) (h1 : 0 ≤ x.1) (h2 : x.1 < 12) (hf : Fac a b f) (ht : 0 ≤ t ∧ t ≤ 12) (hw : ws.length ≤ 12) (h0 : 0 < x.2.1) (hfl : x.2.2 ≤ f) : pickOut ws [x] a b f t = (x.1, 0) := by
  have e1 : tot [x] = x.2.1 := by simp [tot]
  have e2 : flw [x] = x.2.2 := by simp [flw, h0]
  obtain ⟨i, hi, hc, _⟩ := chosen_some (lone_ok h h1 h2) hf (by rw [e1]; exact h0) (by rw [e2]; exact hfl) ws t.toNat
  rw [pickOut_is (lone_ok h h1 h2) hf ht hw, if_pos (by rw [e1]; exact h0), hc]
  obtain rfl : i = 0 := by simpa using hi
  rfl

theorem ldAt_one (w : World) (x : Ld) : LdAt (w.alloc (.cells #[.int .i64 x.1, .int .i64 x.2.1, .int .i64 x.2.2] 37)) (.slice (some ⟨w.heap.size, 0, none⟩) 1 1) [x] := by
  refine ⟨_, 1, rfl, Nat.le_refl _, by unfold maxLen; omega, .inr ⟨w.heap.size, 0, rfl, by simp, fun i hi => ?_⟩⟩
  rw [Nat.zero_add, cell_of_row _ w.heap.size i _ 37 (0, 0) (heap_alloc_new w _)]
  simp [lcells]

theorem ldAt_drew (w : World) (x : Ld) : LdAt ((w.alloc (.cells #[.int .i64 x.1, .int .i64 x.2.1, .int .i64 x.2.2] 37)).drew) (.slice (some ⟨w.heap.size, 0, none⟩) 1 1) [x] := (ldAt_one w x).below ((Below.refl _ _).drew)

set_option maxHeartbeats 8000000 in
set_option maxRecDepth 100000 in
theorem plone_law (w : World) (u : Value) (rw_ : List Int) (hu : IntsAt w u rw_) (hwu : ∀ n ∈ rw_, (Lit.int .i64 n).wf = true) (hn : rw_.length ≤ 17592186044416) (a : Int) (x0 : (Lit.int .i64 a).wf = true) (b : Int) (x1 : (Lit.int .i64 b).wf = true) (c : Int) (x2 : (Lit.int .i64 c).wf = true) (d : Int) (x3 : (Lit.int .i64 d).wf = true) :
    Calls Try.prog 8 #[u, .int .i64 a, .int .i64 b, .int .i64 c, .int .i64 d] w fun r w' => r = .returned (.bool true) ∧ Below w.heap.size w w' := by
  obtain ⟨pu, cu, rfl, _, _, _⟩ := hu.parts
  obtain ⟨k0, hk0, p0⟩ := picked_some a 12 x0 (by omega) (by omega)
  obtain ⟨k1, hk1, p1⟩ := picked_some b 8 x1 (by omega) (by omega)
  obtain ⟨k2, hk2, p2⟩ := picked_some c 41 x2 (by omega) (by omega)
  obtain ⟨k3, hk3, p3⟩ := picked_some d 13 x3 (by omega) (by omega)
  obtain ⟨X, hX⟩ : ∃ X : Ld, X = ((k0 : Int), 1 + (k1 : Int), (k2 : Int)) := ⟨_, rfl⟩
  have hout := fun ws (hw : ws.length ≤ 12) => lone_out (x := X) (a := 1) (b := 1) (f := (k2 : Int)) (t := (k3 : Int)) (ws := ws) (by rw [hX]; exact ⟨⟨by simp only; omega, by simp only; omega⟩, by simp only; omega, by simp only; omega⟩) (by rw [hX]; simp only; omega) (by rw [hX]; simp only; omega) ⟨⟨by omega, by omega, by omega⟩, by omega, by omega⟩ (by omega) hw (by rw [hX]; simp only; omega) (by rw [hX]; simp only; omega)
  have hXe : X.1 = (k0 : Int) := by rw [hX]
  obtain ⟨W1, hW1⟩ : ∃ W1, W1 = w.alloc (.cells #[.int .i64 (k0 : Int), .int .i64 (1 + (k1 : Int)), .int .i64 (k2 : Int)] 37) := ⟨_, rfl⟩
  have hbox : W1.heap[w.heap.size]? = some (.cells #[.int .i64 (k0 : Int), .int .i64 (1 + (k1 : Int)), .int .i64 (k2 : Int)] 37 (0, 0)) := by rw [hW1]; exact heap_alloc_new _ _
  have hB1 : Below w.heap.size w W1 := by rw [hW1]; exact below_newL _
  have hlt1 : w.heap.size < W1.heap.size := (Array.getElem?_eq_some_iff.1 hbox).1
  have e0 : W1.cell? ⟨w.heap.size, 0, none⟩ = some (.int .i64 (k0 : Int)) := by simp [World.cell?, hbox]
  have e1 : W1.cell? ⟨w.heap.size, 1, none⟩ = some (.int .i64 (1 + (k1 : Int))) := by simp [World.cell?, hbox]
  have e2 : W1.cell? ⟨w.heap.size, 2, none⟩ = some (.int .i64 (k2 : Int)) := by simp [World.cell?, hbox]
  have keep : ∀ W, Below W1.heap.size W1 W → W.cell? ⟨w.heap.size, 0, none⟩ = some (.int .i64 (k0 : Int)) ∧ W.cell? ⟨w.heap.size, 1, none⟩ = some (.int .i64 (1 + (k1 : Int))) ∧ W.cell? ⟨w.heap.size, 2, none⟩ = some (.int .i64 (k2 : Int)) ∧ w.heap.size < W.heap.size := fun W hb =>
    ⟨(hb.cell (p := ⟨w.heap.size, 0, none⟩) hlt1).trans e0, (hb.cell (p := ⟨w.heap.size, 1, none⟩) hlt1).trans e1, (hb.cell (p := ⟨w.heap.size, 2, none⟩) hlt1).trans e2, Nat.lt_of_lt_of_le hlt1 hb.size⟩
  have HWk : Hid (∀ W, Below W1.heap.size W1 W → Calls Try.prog 17 #[.slice pu rw_.length cu] W fun r w' => ∃ ws p c, r = .returned (.slice p (List.length ws) c) ∧ w'.cell? ⟨w.heap.size, 0, none⟩ = some (.int .i64 (k0 : Int)) ∧ w'.cell? ⟨w.heap.size, 1, none⟩ = some (.int .i64 (1 + (k1 : Int))) ∧ w'.cell? ⟨w.heap.size, 2, none⟩ = some (.int .i64 (k2 : Int)) ∧ w.heap.size < w'.heap.size ∧ Hid (ws.length ≤ 12 ∧ IntsAt w' (.slice p ws.length c) ws ∧ Below W1.heap.size W1 w' ∧ Below W.heap.size W w')) := fun W hW => by
    refine (walkOf_any _ rw_ W ((hu.below hB1).below hW) hwu).mono ?_
    rintro r w' ⟨ws, p, c, rfl, hws, ho, hb⟩
    have hb' := hW.trans (hb.mono hW.size)
    obtain ⟨c0, c1, c2, c3⟩ := keep w' hb'
    exact ⟨ws, p, c, rfl, c0, c1, c2, c3, walk_len hws, own_ints ho, hb', hb⟩
  have HPk : Hid (∀ W y v ws, List.length ws ≤ 12 → IntsAt W y ws → LdAt W v [X] → Below W1.heap.size W1 W → Calls Try.prog 11 #[y, v, .int .i64 1, .int .i64 1, .int .i64 (k2 : Int), .int .i64 (k3 : Int)] W fun r w' => r = .returned (.tuple #[.int .i64 (k0 : Int), .int .i64 0]) ∧ w'.cell? ⟨w.heap.size, 0, none⟩ = some (.int .i64 (k0 : Int)) ∧ w.heap.size < w'.heap.size ∧ Hid (Below w.heap.size w w')) := fun W y v ws hl hy hv hW => by
    refine (pick_any y v ws [X] 1 1 k2 k3 W hy hv).mono ?_
    rw [hout ws hl]
    simp only [hXe]
    rintro r w' ⟨rfl, hb⟩
    have hb' := hW.trans (hb.mono hW.size)
    obtain ⟨c0, c1, c2, c3⟩ := keep w' hb'
    exact ⟨rfl, c0, c3, hB1.trans (hb'.mono hB1.size)⟩
  have P : Hid (_ ∧ _ ∧ _ ∧ _ ∧ _) := ⟨p0, p1, p2, p3, hW1⟩
  have HX : Hid _ := hX
  have HOI : Hid (∀ W : World, LdAt (W.alloc (.cells #[.int .i64 (k0 : Int), .int .i64 (1 + (k1 : Int)), .int .i64 (k2 : Int)] 37)) (.slice (some ⟨W.heap.size, 0, none⟩) 1 1) [X]) := fun W => by rw [hX]; exact ldAt_one W _
  clear p0 p1 p2 p3 hW1 hX hout hXe hu hwu hn x0 x1 x2 x3 hbox hB1 keep
  go_enter Try.func8, Try.ntmps8
  go_wp2_with fail
  refine (P.out.2.2.1 _).mono ?_
  rintro r w' ⟨rfl, rfl⟩
  go_wp2_with fail
  refine (P.out.1 _).mono ?_
  rintro r w' ⟨rfl, rfl⟩
  go_wp2_with fail
  refine (P.out.2.1 _).mono ?_
  rintro r w1 ⟨rfl, rfl⟩
  go_wp2_with fail
  rw [← P.out.2.2.2.2]
  go_region_with (first | (go_at_call 16; refine (P.out.2.2.2.1 _).mono ?_; rintro r w4 ⟨rfl, rfl⟩) | (go_at_call 17; refine (HWk.out _ ?hbW).mono ?_; (case hbW => first | exact (Below.refl _ _).drew | exact Below.refl _ _ | exact ((Below.refl _ _).alloc (Nat.le_refl _) _).drew | exact (((Below.refl _ _).drew).alloc (by simp) _) | exact (Below.refl _ _).alloc (Nat.le_refl _) _); rintro r w5 ⟨ws, pw, cw, rfl, d0, d1, d2, d3, hq5⟩) | (go_at_call 11; refine (HPk.out _ _ _ ws hq5.out.1 ?hI ?hL ?hB).mono ?_; (case hI => first | with_reducible exact hq5.out.2.1 | with_reducible exact hq5.out.2.1.below (below_newL _)); (case hL => first | with_reducible exact HOI.out _ | with_reducible exact (HOI.out _).below hq5.out.2.2.2 | with_reducible exact ((HOI.out _).below ((Below.refl _ _).drew)).below hq5.out.2.2.2); (case hB => first | with_reducible exact hq5.out.2.2.1 | with_reducible exact hq5.out.2.2.1.alloc hq5.out.2.2.1.size _); rintro r w6 ⟨rfl, g0, g1, hq6⟩))
  all_goals
    clear d0 d1 d2 d3 e0 e1 e2
    go_wp2
    go_ret
    exact ⟨rfl, hq6.out⟩
end Go.Proofs.Ytjkiahdeaeiopaa.Walks
