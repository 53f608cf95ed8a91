/-
  table.Get; the document's FlowGot. Condition: the slots can be read.
-/
import Derived.Test.YthiojfgimjoenaaFault
import Derived.WalkKit
import Derived.ProofKit
import Derived.Handy
import Derived.LoopTactic
import Derived.Below
import Derived.Laws.BitsAllLaws
import Derived.RegionTactic
import Derived.Deep.RegionHeld3
import Derived.Deep.DrawnRows
import Derived.Deep.AppendLies
import Derived.Laws.OwnMore
import Derived.Deep.Onto
import Derived.Deep.QuietTactic
import Derived.BigQuiet
namespace Go.Proofs.Ythiojfgimjoenaa.Walks
open Go.RowKit
set_option linter.unusedVariables false
set_option linter.unusedSimpArgs false
attribute [local go_sem ↓] Go.wp_at_zero Go.wp_at_succ

/-- What Get answers: the slot, or an error. -/
def gotE (l : List Sl) (s g : Int) : Sl × Int :=
  if ¬ TabOk l then ((0, false, 0, 0), 6) else if ¬ (0 ≤ s ∧ s < l.length) then ((0, false, 0, 0), 8) else
    let x := l.getD s.toNat (0, false, 0, 0)
    if x.2.1 = true ∧ x.1 = g then (x, 0) else ((0, false, 0, 0), 10)

theorem used_iff {x : Sl} (h : SlotOk x) : ¬ Free x ↔ x.2.1 = true := by
  unfold SlotOk at h
  unfold Free
  by_cases hu : x.2.1 = true
  · simp [hu]
  · rw [if_neg hu] at h
    simp only [Bool.not_eq_true] at hu
    simp [hu, h.2.1, h.2.2]

def slotV (x : Sl) : Value := .agg #[.int .i64 x.1, .bool x.2.1, .int .i64 x.2.2.1, .int .i64 x.2.2.2]

theorem results_ct {fn : Func} {x z : Tmp} {t : TypeId} (h : fn.results = #[.cell x t, .tmp z]) {tmps : Array Value} {P : Program} {w : World} {p : Addr} {v1 v3 : Value} (hx : tmps.getD x undef = .pointer (some p)) (hz : tmps.getD z undef = v3)
    (h1 : (loadVar t p).run P w = .ok v1 w) : (results fn tmps).run P w = .ok (.tuple #[v1, v3]) w := by
  have e1 : ∀ a : Addr, (asAddr (.pointer (some a))).run P w = .ok a w := fun a => rfl
  simp only [Array.getD_eq_getD_getElem?] at hx hz
  simp [results, h, hx, hz, e1, h1, Sem.run_bind]

/-- A slot's box: what can be read, and written. -/
def Box4 (w : World) (g : Nat) (a b c d : Value) : Prop :=
  (w.cell? ⟨g, 0, none⟩ = some a ∧ w.cell? ⟨g, 1, none⟩ = some b ∧ w.cell? ⟨g, 2, none⟩ = some c ∧ w.cell? ⟨g, 3, none⟩ = some d) ∧ (w.frozen? ⟨g, 0, none⟩ = false ∧ w.frozen? ⟨g, 1, none⟩ = false ∧ w.frozen? ⟨g, 2, none⟩ = false ∧ w.frozen? ⟨g, 3, none⟩ = false)

theorem box4 {w : World} {g : Nat} {a b c d : Value} {T : TypeId} (h : w.heap[g]? = some (.cells #[a, b, c, d] T (0, 0))) : Box4 w g a b c d := by
  unfold Box4
  simp [World.cell?, World.frozen?, h]

theorem four_set {w : World} {g : Nat} {a b c d a' b' c' d' : Value} {T : TypeId} (h : w.heap[g]? = some (.cells #[a, b, c, d] T (0, 0))) :
    ((((w.setCell ⟨g, 0, none⟩ a').setCell ⟨g, 1, none⟩ b').setCell ⟨g, 2, none⟩ c').setCell ⟨g, 3, none⟩ d').heap[g]? = some (.cells #[a', b', c', d'] T (0, 0)) :=
  heap_setCell_same _ _ 3 _ _ d' (heap_setCell_same _ _ 2 _ _ c' (heap_setCell_same _ _ 1 _ _ b' (heap_setCell_same w g 0 _ _ a' h)))

theorem four_below {w0 w : World} {B g : Nat} {a b c d : Value} (h : Below B w0 w) (hg : B ≤ g) : Below B w0 ((((w.setCell ⟨g, 0, none⟩ a).setCell ⟨g, 1, none⟩ b).setCell ⟨g, 2, none⟩ c).setCell ⟨g, 3, none⟩ d) :=
  (((h.setCell hg _).setCell hg _).setCell hg _).setCell hg _

theorem got_none {l : List Sl} {s g : Int} (hok : TabOk l) (h : s < 0 ∨ (l.length : Int) ≤ s) : gotE l s g = ((0, false, 0, 0), 8) := by
  unfold gotE
  rw [if_neg (not_not_intro hok), if_pos (by omega)]

theorem got_some {l : List Sl} {k : Nat} {g : Int} {x : Sl} (hok : TabOk l) (hk : k < l.length) (hx : x = l[k]) : gotE l k g = if x.2.1 = true ∧ x.1 = g then (x, 0) else ((0, false, 0, 0), 10) := by
  unfold gotE
  rw [if_neg (not_not_intro hok), if_neg (by omega)]
  have : l.getD (k : Int).toNat (0, false, 0, 0) = x := by
    rw [Int.toNat_natCast, List.getD_eq_getElem?_getD, List.getElem?_eq_getElem hk, hx]
    rfl
  rw [this]

set_option maxHeartbeats 8000000 in
set_option maxRecDepth 100000 in
theorem get_any (v : Value) (l : List Sl) (s g : Int) (w : World) (hv : SlAt w v l) :
    Calls Try.prog 17 #[.agg #[v], .agg #[.int .i64 s, .int .i64 g]] w fun r w' => r = .returned (.tuple #[slotV (gotE l s g).1, .int .i64 (gotE l s g).2]) ∧ Below w.heap.size w w' := by
  obtain ⟨p, c, rfl, hc, hm, pa⟩ := hv.parts
  unfold maxLen at hm
  obtain ⟨W0, hW0⟩ : ∃ W0, W0 = ((w.alloc (.cells #[.slice p l.length c] 24)).alloc (.cells #[.int .i64 s, .int .i64 g] 42)).alloc (.cells #[.int .i64 0, .bool false, .int .i64 0, .int .i64 0] 44) := ⟨_, rfl⟩
  have hb0 : Below w.heap.size w W0 := by rw [hW0]; exact (((Below.refl _ _).alloc (Nat.le_refl _) _).alloc (by simp) _).alloc (by simp; omega) _
  have hT0 : W0.heap[w.heap.size]? = some (.cells #[.slice p l.length c] 24 (0, 0)) := by rw [hW0]; exact heap_old _ _ (heap_old _ _ (heap_alloc_new _ _))
  have hH0 : W0.heap[w.heap.size + 1]? = some (.cells #[.int .i64 s, .int .i64 g] 42 (0, 0)) := by rw [hW0]; exact heap_old _ _ (heap_second _ _ _)
  have hS0 : W0.heap[w.heap.size + 1 + 1]? = some (.cells #[.int .i64 0, .bool false, .int .i64 0, .int .i64 0] 44 (0, 0)) := by rw [hW0]; have := heap_alloc_new ((w.alloc (.cells #[.slice p l.length c] 24)).alloc (.cells #[.int .i64 s, .int .i64 g] 42)) (.cells #[.int .i64 0, .bool false, .int .i64 0, .int .i64 0] 44); simpa using this
  have HV : Hid (_ ∧ _ ∧ _ ∧ _ ∧ _ ∧ _) := ⟨hv, hb0, hT0, hH0, hS0, hW0⟩
  clear hv hb0 hT0 hH0 hS0 hW0
  go_enter Try.func17, Try.ntmps17
  go_wp2_with fail
  rw [← HV.out.2.2.2.2.2]
  refine (check_any _ l _ (HV.out.1.below HV.out.2.1)).mono ?_
  rintro r w1 ⟨rfl, hb1⟩
  have hS1 := box_below HV.out.2.2.2.2.1 hb1
  have hT1 := box_below HV.out.2.2.1 hb1
  have hH1 := box_below HV.out.2.2.2.1 hb1
  have s0 : w1.cell? ⟨w.heap.size + 1 + 1, 0, none⟩ = some (.int .i64 0) := by simp [World.cell?, hS1]
  have s1 : w1.cell? ⟨w.heap.size + 1 + 1, 1, none⟩ = some (.bool false) := by simp [World.cell?, hS1]
  have s2 : w1.cell? ⟨w.heap.size + 1 + 1, 2, none⟩ = some (.int .i64 0) := by simp [World.cell?, hS1]
  have s3 : w1.cell? ⟨w.heap.size + 1 + 1, 3, none⟩ = some (.int .i64 0) := by simp [World.cell?, hS1]
  have f0 : w1.frozen? ⟨w.heap.size + 1 + 1, 0, none⟩ = false := by simp [World.frozen?, hS1]
  have f1 : w1.frozen? ⟨w.heap.size + 1 + 1, 1, none⟩ = false := by simp [World.frozen?, hS1]
  have f2 : w1.frozen? ⟨w.heap.size + 1 + 1, 2, none⟩ = false := by simp [World.frozen?, hS1]
  have f3 : w1.frozen? ⟨w.heap.size + 1 + 1, 3, none⟩ = false := by simp [World.frozen?, hS1]
  have t0 := one_cell hT1
  obtain ⟨h0, h1, _⟩ := two_cells hH1
  have H1 : Hid (_ ∧ _ ∧ _ ∧ _) := ⟨hb1, hS1, hT1, hH1⟩
  clear hb1 hS1 hT1 hH1
  have HB1 : Hid _ := HV.out.2.1.trans (H1.out.1.mono HV.out.2.1.size)
  by_cases hok : TabOk l
  · rw [if_pos hok]
    by_cases hs0 : s < 0
    · have HG : Hid _ := got_none (g := g) hok (.inl hs0)
      clear pa hok
      go_wp2
      exact bodyPost_ret (v := .tuple #[slotV (0, false, 0, 0), .int .i64 8]) (results_ct Try.results17 rfl rfl (load_row (P := Try.prog) (cs := [.int .i64 0, .bool false, .int .i64 0, .int .i64 0]) (four_set H1.out.2.1) Try.underlying44 rfl (by kernel_rfl))) rfl ⟨by rw [HG.out], four_below HB1.out (by omega)⟩
    by_cases hs1 : (l.length : Int) ≤ s
    · have HG : Hid _ := got_none (g := g) hok (.inr hs1)
      clear pa hok
      go_wp2
      exact bodyPost_ret (v := .tuple #[slotV (0, false, 0, 0), .int .i64 8]) (results_ct Try.results17 rfl rfl (load_row (P := Try.prog) (cs := [.int .i64 0, .bool false, .int .i64 0, .int .i64 0]) (four_set H1.out.2.1) Try.underlying44 rfl (by kernel_rfl))) rfl ⟨by rw [HG.out], four_below HB1.out (by omega)⟩
    obtain ⟨k, rfl⟩ := Int.eq_ofNat_of_zero_le (a := s) (by omega)
    have hk : k < l.length := by omega
    have hkI : (k : Int) < (l.length : Int) := by omega
    obtain ⟨b1, o1, rfl, hb1, c1, c2, c3, c4⟩ := pa k hk
    have hbt := HB1.out
    have e1 := (hbt.cell (p := ⟨b1, o1 + k * 4, none⟩) hb1).trans c1
    have e2 := (hbt.cell (p := ⟨b1, o1 + k * 4 + 1, none⟩) hb1).trans c2
    have e3 := (hbt.cell (p := ⟨b1, o1 + k * 4 + 2, none⟩) hb1).trans c3
    have e4 := (hbt.cell (p := ⟨b1, o1 + k * 4 + 3, none⟩) hb1).trans c4
    obtain ⟨⟨x1, x2, x3, x4⟩, hxk⟩ : ∃ x, x = l[k] := ⟨_, rfl⟩
    rw [← hxk] at e1 e2 e3 e4
    have hg := got_some (g := g) hok hk hxk
    have hfr := used_iff (hok.2 l[k] (List.getElem_mem hk))
    rw [← hxk] at hfr
    have HG : Hid (_ ∧ _) := ⟨hg, hfr⟩
    obtain ⟨W2, hW2⟩ : ∃ W2, W2 = w1.alloc (.cells #[.int .i64 x1, .bool x2, .int .i64 x3, .int .i64 x4] 44) := ⟨_, rfl⟩
    have hX2 : W2.heap[w1.heap.size]? = some (.cells #[.int .i64 x1, .bool x2, .int .i64 x3, .int .i64 x4] 44 (0, 0)) := by rw [hW2]; exact heap_alloc_new _ _
    have hb2 : Below w1.heap.size w1 W2 := by rw [hW2]; exact below_newC w1
    have H2 : Hid (_ ∧ _ ∧ _) := ⟨hW2, hX2, hb2⟩
    clear hg hfr hxk hok pa c1 c2 c3 c4 hb1 hs0 hs1 hbt hW2 hX2 hb2
    go_wp2_with fail
    rw [← H2.out.1]
    refine (isFree_any x1 x2 x3 x4 _).mono ?_
    rintro r w3 ⟨rfl, hb3⟩
    have hX3 := box_below H2.out.2.1 hb3
    have hb23 := H2.out.2.2.trans (hb3.mono H2.out.2.2.size)
    have hS3 := box_below H1.out.2.1 hb23
    have hH3 := box_below H1.out.2.2.2 hb23
    have u0 : w3.cell? ⟨w.heap.size + 1 + 1, 0, none⟩ = some (.int .i64 0) := by simp [World.cell?, hS3]
    have u1 : w3.cell? ⟨w.heap.size + 1 + 1, 1, none⟩ = some (.bool false) := by simp [World.cell?, hS3]
    have u2 : w3.cell? ⟨w.heap.size + 1 + 1, 2, none⟩ = some (.int .i64 0) := by simp [World.cell?, hS3]
    have u3 : w3.cell? ⟨w.heap.size + 1 + 1, 3, none⟩ = some (.int .i64 0) := by simp [World.cell?, hS3]
    have v0 : w3.frozen? ⟨w.heap.size + 1 + 1, 0, none⟩ = false := by simp [World.frozen?, hS3]
    have v1 : w3.frozen? ⟨w.heap.size + 1 + 1, 1, none⟩ = false := by simp [World.frozen?, hS3]
    have v2 : w3.frozen? ⟨w.heap.size + 1 + 1, 2, none⟩ = false := by simp [World.frozen?, hS3]
    have v3 : w3.frozen? ⟨w.heap.size + 1 + 1, 3, none⟩ = false := by simp [World.frozen?, hS3]
    have z0 : w3.cell? ⟨w1.heap.size, 0, none⟩ = some (.int .i64 x1) := by simp [World.cell?, hX3]
    have z1 : w3.cell? ⟨w1.heap.size, 1, none⟩ = some (.bool x2) := by simp [World.cell?, hX3]
    have z2 : w3.cell? ⟨w1.heap.size, 2, none⟩ = some (.int .i64 x3) := by simp [World.cell?, hX3]
    have z3 : w3.cell? ⟨w1.heap.size, 3, none⟩ = some (.int .i64 x4) := by simp [World.cell?, hX3]
    obtain ⟨y0, y1, _⟩ := two_cells hH3
    have HB3 : Hid _ := HB1.out.trans (hb23.mono HB1.out.size)
    have HS3 : Hid _ := hS3
    clear hX3 hb3 hb23 hS3 hH3 s0 s1 s2 s3 f0 f1 f2 f3 t0 h0 h1 e1 e2 e3 e4
    by_cases hfr : Free (x1, x2, x3, x4)
    · have hd := decide_eq_true hfr
      have hg : gotE l k g = ((0, false, 0, 0), 10) := by
        rw [HG.out.1, if_neg fun h => (HG.out.2.2 h.1) hfr]
      have HE : Hid _ := hg
      rw [hd]
      clear hg hd hfr
      go_wp2
      exact bodyPost_ret (v := .tuple #[slotV (0, false, 0, 0), .int .i64 10]) (results_ct Try.results17 rfl rfl (load_row (P := Try.prog) (cs := [.int .i64 0, .bool false, .int .i64 0, .int .i64 0]) (four_set HS3.out) Try.underlying44 rfl (by kernel_rfl))) rfl ⟨by rw [HE.out], four_below HB3.out (by omega)⟩
    · have hd := decide_eq_false hfr
      rw [hd]
      have hu := HG.out.2.1 hfr
      cases hgn : (x1 != g)
      · have hg : gotE l k g = ((x1, x2, x3, x4), 0) := by
          rw [HG.out.1, if_pos ⟨hu, by simpa using hgn⟩]
        have HE : Hid _ := hg
        clear hg hd hfr hu
        go_wp2
        exact bodyPost_ret (v := .tuple #[slotV (x1, x2, x3, x4), .int .i64 0]) (results_ct Try.results17 rfl rfl (load_row (P := Try.prog) (cs := [.int .i64 x1, .bool x2, .int .i64 x3, .int .i64 x4]) (four_set HS3.out) Try.underlying44 rfl (by kernel_rfl))) rfl ⟨by rw [HE.out], four_below HB3.out (by omega)⟩
      · have hg : gotE l k g = ((0, false, 0, 0), 10) := by
          rw [HG.out.1, if_neg fun h => by have := h.2; simp at hgn; exact hgn this]
        have HE : Hid _ := hg
        clear hg hd hfr hu
        go_wp2
        exact bodyPost_ret (v := .tuple #[slotV (0, false, 0, 0), .int .i64 10]) (results_ct Try.results17 rfl rfl (load_row (P := Try.prog) (cs := [.int .i64 0, .bool false, .int .i64 0, .int .i64 0]) (four_set HS3.out) Try.underlying44 rfl (by kernel_rfl))) rfl ⟨by rw [HE.out], four_below HB3.out (by omega)⟩
  · rw [if_neg hok]
    have hg : gotE l s g = ((0, false, 0, 0), 6) := by unfold gotE; rw [if_pos hok]
    have HG : Hid _ := hg
    clear hg pa
    go_wp2
    exact bodyPost_ret (v := .tuple #[slotV (0, false, 0, 0), .int .i64 6]) (results_ct Try.results17 rfl rfl (load_row (P := Try.prog) (cs := [.int .i64 0, .bool false, .int .i64 0, .int .i64 0]) (four_set H1.out.2.1) Try.underlying44 rfl (by kernel_rfl))) rfl ⟨by rw [HG.out], four_below HB1.out (by omega)⟩
end Go.Proofs.Ythiojfgimjoenaa.Walks
