/-
  Of, Finish, Wake, Ask. Condition: what is read can be read.
-/
import Derived.Test.YtlpedligkofegaaWake
import Derived.WalkKit
import Derived.ProofKit
import Derived.Handy
import Derived.LoopTactic
import Derived.Below
import Derived.Laws.BitsAllLaws
import Derived.RegionTactic
import Derived.Deep.RegionHeld3
import Derived.Deep.DrawnRows
import Derived.Deep.AppendLies
import Derived.Laws.OwnMore
import Derived.Deep.Onto
import Derived.Deep.QuietTactic
import Derived.BigQuiet
namespace Go.Proofs.Ytlpedligkofegaa.Walks
open Go.RowKit
set_option linter.unusedVariables false
set_option linter.unusedSimpArgs false
attribute [local go_sem ↓] Go.wp_at_zero Go.wp_at_succ

theorem results_ctt {fn : Func} {x y z : Tmp} {t : TypeId} (h : fn.results = #[.cell x t, .tmp y, .tmp z]) {tmps : Array Value} {P : Program} {w : World} {p : Addr} {v1 v2 v3 : Value} (hx : tmps.getD x undef = .pointer (some p)) (hy : tmps.getD y undef = v2) (hz : tmps.getD z undef = v3)
    (h1 : (loadVar t p).run P w = .ok v1 w) : (results fn tmps).run P w = .ok (.tuple #[v1, v2, v3]) w := by
  have e1 : ∀ a : Addr, (asAddr (.pointer (some a))).run P w = .ok a w := fun a => rfl
  simp only [Array.getD_eq_getD_getElem?] at hx hy hz
  simp [results, h, hx, hy, hz, e1, h1, Sem.run_bind]

theorem results_cttt {fn : Func} {x y z u : Tmp} {t : TypeId} (h : fn.results = #[.cell x t, .tmp y, .tmp z, .tmp u]) {tmps : Array Value} {P : Program} {w : World} {p : Addr} {v1 v2 v3 v4 : Value} (hx : tmps.getD x undef = .pointer (some p)) (hy : tmps.getD y undef = v2) (hz : tmps.getD z undef = v3) (hu : tmps.getD u undef = v4)
    (h1 : (loadVar t p).run P w = .ok v1 w) : (results fn tmps).run P w = .ok (.tuple #[v1, v2, v3, v4]) w := by
  have e1 : ∀ a : Addr, (asAddr (.pointer (some a))).run P w = .ok a w := fun a => rfl
  simp only [Array.getD_eq_getD_getElem?] at hx hy hz hu
  simp [results, h, hx, hy, hz, hu, e1, h1, Sem.run_bind]

theorem five_set6 {w : World} {g : Nat} {a b c d e f a' b' c' d' e' : Value} {T : TypeId} (h : w.heap[g]? = some (.cells #[a, b, c, d, e, f] T (0, 0))) : (((((w.setCell ⟨g, 0, none⟩ a').setCell ⟨g, 1, none⟩ b').setCell ⟨g, 2, none⟩ c').setCell ⟨g, 3, none⟩ d').setCell ⟨g, 4, none⟩ e').heap[g]? = some (.cells #[a', b', c', d', e', f] T (0, 0)) :=
  heap_setCell_same _ _ 4 _ _ e' (heap_setCell_same _ _ 3 _ _ d' (heap_setCell_same _ _ 2 _ _ c' (heap_setCell_same _ _ 1 _ _ b' (heap_setCell_same w g 0 _ _ a' h))))

theorem six_set {w : World} {g : Nat} {a b c d e f a' b' c' d' e' f' : Value} {T : TypeId} (h : w.heap[g]? = some (.cells #[a, b, c, d, e, f] T (0, 0))) : ((((((w.setCell ⟨g, 0, none⟩ a').setCell ⟨g, 1, none⟩ b').setCell ⟨g, 2, none⟩ c').setCell ⟨g, 3, none⟩ d').setCell ⟨g, 4, none⟩ e').setCell ⟨g, 5, none⟩ f').heap[g]? = some (.cells #[a', b', c', d', e', f'] T (0, 0)) :=
  heap_setCell_same _ _ 5 _ _ f' (five_set6 h)

theorem below_set6 {w W : World} {B h : Nat} {a b c d e f : Value} (H : Below B w W) (hh : B ≤ h) : Below B w ((((((W.setCell ⟨h, 0, none⟩ a).setCell ⟨h, 1, none⟩ b).setCell ⟨h, 2, none⟩ c).setCell ⟨h, 3, none⟩ d).setCell ⟨h, 4, none⟩ e).setCell ⟨h, 5, none⟩ f) := (below_set5 H hh).setCell hh _

/-- A book that can be read, in memory from B on. -/
abbrev BkNew (B : Nat) (w : World) (va vb : Value) (L : List Lf) (R : List Rq) : Prop := BkAt w va vb L R ∧ (∀ b, va.ownBlock = some b → B ≤ b) ∧ (∀ b, vb.ownBlock = some b → B ≤ b)

abbrev set2 (W : World) (g : Nat) (a b : Value) : World := (W.setCell ⟨g, 0, none⟩ a).setCell ⟨g, 1, none⟩ b

theorem set2_other {W : World} {g k : Nat} {a b : Value} (h : k ≠ g) : (set2 W g a b).heap[k]? = W.heap[k]? := by
  unfold set2
  rw [Below.heap_setCell _ _ _ _ h, Below.heap_setCell _ _ _ _ h]

theorem set2_size {W : World} {g : Nat} {a b : Value} : (set2 W g a b).heap.size = W.heap.size := by
  unfold set2
  simp

/-- A book is laid into a box below it. -/
theorem bk_out {w W : World} {B : Nat} {va vb a b : Value} {L : List Lf} {R : List Rq} (h : BkNew (B + 1) W va vb L R) (hres : W.heap[B]? = some (bkO a b)) (hb : Below w.heap.size w W) (hB : w.heap.size ≤ B) :
    (set2 W B va vb).heap[B]? = some (bkO va vb) ∧ BkNew w.heap.size (set2 W B va vb) va vb L R ∧ Below w.heap.size w (set2 W B va vb) :=
  ⟨two_set hres, ⟨⟨RcAt.keep h.1.1 (by rw [set2_size]; exact Nat.le_refl _) (fun g hg => set2_other (by have := h.2.1 g hg; omega)), RcAt.keep h.1.2 (by rw [set2_size]; exact Nat.le_refl _) (fun g hg => set2_other (by have := h.2.2 g hg; omega))⟩, fun g hg => Nat.le_trans hB (Nat.le_of_succ_le (h.2.1 g hg)), fun g hg => Nat.le_trans hB (Nat.le_of_succ_le (h.2.2 g hg))⟩, (hb.setCell hB _).setCell hB _⟩

theorem Opn.new {base : Nat} {W : World} {T : Nat} {va vb : Value} {L : List Lf} {R : List Rq} (h : Opn base W T va vb L R) {B : Nat} (hB : B ≤ base) : BkNew B W va vb L R :=
  ⟨h.at, fun b hb => Nat.le_trans hB (h.lives.lt b hb).1, fun b hb => Nat.le_trans hB (h.reqs.lt b hb).1⟩

theorem bkNew_nil (B : Nat) (w : World) : BkNew B w (.slice none 0 0) (.slice none 0 0) [] [] := ⟨⟨rcAt_nil w, rcAt_nil w⟩, (fun b h => by cases h), (fun b h => by cases h)⟩

theorem load_bk {W : World} {g : Nat} {va vb : Value} (h : W.heap[g]? = some (bkO va vb)) : (loadVar 25 ⟨g, 0, none⟩).run Try.prog W = .ok (bkV va vb) W :=
  load_row (P := Try.prog) (cs := [va, vb]) h Try.underlying25 rfl (by kernel_rfl)

/-- The boxes of a call that takes a book and answers one. -/
theorem two_boxes (w : World) (o r : Obj) : ((w.alloc o).alloc r).heap[w.heap.size]? = some o ∧ ((w.alloc o).alloc r).heap[w.heap.size + 1]? = some r ∧ Below w.heap.size w ((w.alloc o).alloc r) ∧ ((w.alloc o).alloc r).heap.size = w.heap.size + 2 :=
  ⟨heap_old _ _ (heap_alloc_new _ _), heap_second _ _ _, ((Below.refl _ _).alloc (Nat.le_refl _) _).alloc (by simp) _, by simp⟩

theorem opened_open {w w' : World} {L : List Lf} {R : List Rq} {r : Ending} (h : Opened L R w r w') : ∃ T p k q m, r = .returned (.tuple #[.pointer (some ⟨T, 0, none⟩), .int .i64 0]) ∧ Opn w.heap.size w' T (.slice p L.length k) (.slice q R.length m) L R ∧ Below w.heap.size w w' := h

set_option maxHeartbeats 4000000 in
set_option maxRecDepth 100000 in
theorem of_any (va vb : Value) (L : List Lf) (R : List Rq) (n : Int) (w : World) (hv : BkAt w va vb L R) (x1 x2 x3 x4 x5 x6 e : Int) (hout : ofO L R n = ((x1, x2, x3, x4, x5, x6), e)) :
    Calls Try.prog 20 #[bkV va vb, .int .i64 n] w fun r w' => r = .returned (.tuple #[lfV x1 x2 x3 x4 x5 x6, .int .i64 e]) ∧ Below w.heap.size w w' := by
  obtain ⟨pa, ca, rfl, hca, hma⟩ := RcAt.form hv.1
  obtain ⟨pb, cb, rfl, hcb, hmb⟩ := RcAt.form hv.2
  obtain ⟨W0, hW0⟩ : ∃ W0, W0 = (w.alloc (bkO (.slice pa L.length ca) (.slice pb R.length cb))).alloc (lfO 0 0 0 0 0 0) := ⟨_, rfl⟩
  have hx := two_boxes w (bkO (.slice pa L.length ca) (.slice pb R.length cb)) (lfO 0 0 0 0 0 0)
  rw [← hW0] at hx
  obtain ⟨hR0, hR1, hB0, hs0⟩ := hx
  obtain ⟨c0, c1, _, _, hlt0⟩ := two_cells hR0
  have H : Hid (_ ∧ _ ∧ _ ∧ _ ∧ _) := ⟨hW0, hR1, hB0, hs0, hv.below hB0⟩
  clear hv hR0 hR1 hB0 hs0
  by_cases hok : BkOk L R
  · have HO : Hid _ := openedOf_yes _ _ L R W0 H.out.2.2.2.2 hok
    unfold ofO at hout
    rw [if_pos hok] at hout
    clear hW0
    go_enter Try.func20, Try.ntmps20
    go_wp2_with fail
    rw [← H.out.1]
    refine Calls.mono HO.out ?_
    intro r w1 hop
    obtain ⟨T, p, k, q, m, rfl, hO, hb1⟩ := opened_open hop
    have hR1 := box_below H.out.2.1 hb1
    have hbw := H.out.2.2.1.trans (hb1.mono H.out.2.2.1.size)
    clear hop c0 c1 hlt0
    cases hh : here L n
    · rw [hh, if_neg (by decide)] at hout
      cases hout
      have HL : Hid _ := life_no W0.heap.size T p k q m L R n w1 hO hh
      have HB : Hid (_ ∧ _) := ⟨hR1, hbw⟩
      clear hO hb1 hR1 hbw
      go_wp2_with fail
      refine Calls.mono HL.out ?_
      rintro r w2 ⟨rfl, hb2⟩
      have hR2 := box_below HB.out.1 hb2
      obtain ⟨d0, d1, d2, d3, d4, d5, dlt⟩ := six_cells hR2
      have hf0 : w2.frozen? ⟨w.heap.size + 1, 0, none⟩ = false := by simp [World.frozen?, hR2]
      have hf1 : w2.frozen? ⟨w.heap.size + 1, 1, none⟩ = false := by simp [World.frozen?, hR2]
      have hf2 : w2.frozen? ⟨w.heap.size + 1, 2, none⟩ = false := by simp [World.frozen?, hR2]
      have hf3 : w2.frozen? ⟨w.heap.size + 1, 3, none⟩ = false := by simp [World.frozen?, hR2]
      have hf4 : w2.frozen? ⟨w.heap.size + 1, 4, none⟩ = false := by simp [World.frozen?, hR2]
      have hf5 : w2.frozen? ⟨w.heap.size + 1, 5, none⟩ = false := by simp [World.frozen?, hR2]
      have HC : Hid (_ ∧ _) := ⟨hR2, HB.out.2.trans (hb2.mono HB.out.2.size)⟩
      clear hb2 hR2
      go_wp2
      exact bodyPost_ret (v := .tuple #[lfV 0 0 0 0 0 0, .int .i64 8]) (results_ct Try.results20 rfl rfl (load_row (P := Try.prog) (cs := [.int .i64 0, .int .i64 0, .int .i64 0, .int .i64 0, .int .i64 0, .int .i64 0]) (six_set HC.out.1) Try.underlying44 rfl (by kernel_rfl))) rfl ⟨rfl, below_set6 HC.out.2 (Nat.le_succ _)⟩
    · rw [hh, if_pos rfl] at hout
      obtain ⟨i, hi⟩ : ∃ i, i = pos L n := ⟨_, rfl⟩
      have hlti : i < L.length := by rw [hi]; exact here_lt hh
      rw [← hi, List.getElem?_eq_getElem hlti, Option.getD_some] at hout
      injection hout with hx he
      subst he
      obtain ⟨g, c', he, _, hglt⟩ := hO.lives.form (by omega)
      cases he
      have HL : Hid _ := life_yes W0.heap.size T g k q m L R n w1 hO hh i hi
      have HB : Hid (_ ∧ _ ∧ _ ∧ _) := ⟨hR1, hbw, hO, hx⟩
      clear hO hb1 hR1 hbw hx hi hh
      go_wp2_with fail
      refine Calls.mono HL.out ?_
      rintro r w2 ⟨rfl, hb2⟩
      have hR2 := box_below HB.out.1 hb2
      have hO2 := HB.out.2.2.1.below hb2
      obtain ⟨d0, d1, d2, d3, d4, d5, dlt⟩ := six_cells hR2
      have hf0 : w2.frozen? ⟨w.heap.size + 1, 0, none⟩ = false := by simp [World.frozen?, hR2]
      have hf1 : w2.frozen? ⟨w.heap.size + 1, 1, none⟩ = false := by simp [World.frozen?, hR2]
      have hf2 : w2.frozen? ⟨w.heap.size + 1, 2, none⟩ = false := by simp [World.frozen?, hR2]
      have hf3 : w2.frozen? ⟨w.heap.size + 1, 3, none⟩ = false := by simp [World.frozen?, hR2]
      have hf4 : w2.frozen? ⟨w.heap.size + 1, 4, none⟩ = false := by simp [World.frozen?, hR2]
      have hf5 : w2.frozen? ⟨w.heap.size + 1, 5, none⟩ = false := by simp [World.frozen?, hR2]
      have e0 := own_cell lf6 hO2.lives rfl hlti (j := 0) (by omega)
      have e1 := own_cell lf6 hO2.lives rfl hlti (j := 1) (by omega)
      have e2 := own_cell lf6 hO2.lives rfl hlti (j := 2) (by omega)
      have e3 := own_cell lf6 hO2.lives rfl hlti (j := 3) (by omega)
      have e4 := own_cell lf6 hO2.lives rfl hlti (j := 4) (by omega)
      have e5 := own_cell lf6 hO2.lives rfl hlti (j := 5) (by omega)
      rw [HB.out.2.2.2] at e0 e1 e2 e3 e4 e5
      simp only [List.getElem?_cons_zero, List.getElem?_cons_succ, Option.map_some, Nat.add_zero] at e0 e1 e2 e3 e4 e5
      have HC : Hid (_ ∧ _) := ⟨hR2, HB.out.2.1.trans (hb2.mono HB.out.2.1.size)⟩
      clear hb2 hR2 hO2
      go_wp2
      exact bodyPost_ret (v := .tuple #[lfV x1 x2 x3 x4 x5 x6, .int .i64 0]) (results_ct Try.results20 rfl rfl (load_row (P := Try.prog) (cs := [.int .i64 x1, .int .i64 x2, .int .i64 x3, .int .i64 x4, .int .i64 x5, .int .i64 x6]) (six_set HC.out.1) Try.underlying44 rfl (by kernel_rfl))) rfl ⟨rfl, below_set6 HC.out.2 (Nat.le_succ _)⟩
  · have HO : Hid _ := openedOf_no _ _ L R W0 H.out.2.2.2.2 hok
    unfold ofO at hout
    rw [if_neg hok] at hout
    cases hout
    clear hW0
    go_enter Try.func20, Try.ntmps20
    go_wp2_with fail
    rw [← H.out.1]
    refine Calls.mono HO.out ?_
    rintro r w1 ⟨rfl, hb1⟩
    have hR2 := box_below H.out.2.1 hb1
    obtain ⟨d0, d1, d2, d3, d4, d5, dlt⟩ := six_cells hR2
    have hf0 : w1.frozen? ⟨w.heap.size + 1, 0, none⟩ = false := by simp [World.frozen?, hR2]
    have hf1 : w1.frozen? ⟨w.heap.size + 1, 1, none⟩ = false := by simp [World.frozen?, hR2]
    have hf2 : w1.frozen? ⟨w.heap.size + 1, 2, none⟩ = false := by simp [World.frozen?, hR2]
    have hf3 : w1.frozen? ⟨w.heap.size + 1, 3, none⟩ = false := by simp [World.frozen?, hR2]
    have hf4 : w1.frozen? ⟨w.heap.size + 1, 4, none⟩ = false := by simp [World.frozen?, hR2]
    have hf5 : w1.frozen? ⟨w.heap.size + 1, 5, none⟩ = false := by simp [World.frozen?, hR2]
    have HC : Hid (_ ∧ _) := ⟨hR2, H.out.2.2.1.trans (hb1.mono H.out.2.2.1.size)⟩
    clear hb1 hR2
    go_wp2
    exact bodyPost_ret (v := .tuple #[lfV 0 0 0 0 0 0, .int .i64 6]) (results_ct Try.results20 rfl rfl (load_row (P := Try.prog) (cs := [.int .i64 0, .int .i64 0, .int .i64 0, .int .i64 0, .int .i64 0, .int .i64 0]) (six_set HC.out.1) Try.underlying44 rfl (by kernel_rfl))) rfl ⟨rfl, below_set6 HC.out.2 (Nat.le_succ _)⟩
end Go.Proofs.Ytlpedligkofegaa.Walks
