/-
  table.Put. Condition: the slots can be read.
-/
import Derived.Test.YthiojfgimjoenaaDrop
import Derived.WalkKit
import Derived.ProofKit
import Derived.Handy
import Derived.LoopTactic
import Derived.Below
import Derived.Laws.BitsAllLaws
import Derived.RegionTactic
import Derived.Deep.RegionHeld3
import Derived.Deep.DrawnRows
import Derived.Deep.AppendLies
import Derived.Laws.OwnMore
import Derived.Deep.Onto
import Derived.Deep.QuietTactic
import Derived.BigQuiet
namespace Go.Proofs.Ythiojfgimjoenaa.Walks
open Go.RowKit
set_option linter.unusedVariables false
set_option linter.unusedSimpArgs false
attribute [local go_sem ↓] Go.wp_at_zero Go.wp_at_succ

/-- What Put answers. -/
def putOut (l : List Sl) (key bk : Int) : List Sl × Tm × Int :=
  if ¬ TabOk l then ([], (0, 0), 6) else if ¬ (isKeyP key ∧ isBeP bk) then ([], (0, 0), 2) else
    match find openB l with
    | none => ([], (0, 0), 9)
    | some k => (l.set k ((l.getD k (0, false, 0, 0)).1, true, key, bk), ((k : Int), (l.getD k (0, false, 0, 0)).1), 0)

/-- A table, a handle and an error, as a call leaves them. -/
def PutRes (o : List Sl × Tm × Int) (w : World) (r : Ending) (w' : World) : Prop :=
  ∃ p c, r = .returned (.tuple #[.agg #[.slice p o.1.length c], .agg #[.int .i64 o.2.1.1, .int .i64 o.2.1.2], .int .i64 o.2.2]) ∧ w'.ownsRow w.heap.size 44 4 (.slice p o.1.length c) o.1.length (scells o.1) ∧ Below w.heap.size w w'

theorem find_lt {q : Sl → Bool} : ∀ {l : List Sl} {k : Nat}, find q l = some k → ∃ h : k < l.length, q l[k] = true ∧ ∀ t ∈ l.take k, q t = false
  | [], k, h => by simp [find] at h
  | t :: l, k, h => by
    unfold find at h
    by_cases hq : q t = true
    · rw [if_pos hq] at h
      injection h with h
      subst h
      exact ⟨by simp, by simpa using hq, by simp⟩
    · rw [if_neg hq] at h
      cases hf : find q l with
      | none => rw [hf] at h; cases h
      | some j =>
        rw [hf] at h
        injection h with h
        subst h
        obtain ⟨h1, h2, h3⟩ := find_lt hf
        refine ⟨by simp; omega, by simpa using h2, fun x hx => ?_⟩
        rw [List.take_succ_cons] at hx
        rcases List.mem_cons.1 hx with rfl | hx
        · simpa using hq
        · exact h3 x hx

theorem fin_R {w : World} {R H : Nat} {a u x y : Value} {T : TypeId} (hR : w.heap[R]? = some (.cells #[a] T (0, 0))) (hne : R ≠ H) : (((w.setCell ⟨R, 0, none⟩ u).setCell ⟨H, 0, none⟩ x).setCell ⟨H, 1, none⟩ y).heap[R]? = some (.cells #[u] T (0, 0)) := by
  rw [Below.heap_setCell _ _ _ _ (by simpa using hne), Below.heap_setCell _ _ _ _ (by simpa using hne)]
  exact one_set hR

theorem fin_H {w : World} {R H : Nat} {b c u x y : Value} {U : TypeId} (hH : w.heap[H]? = some (.cells #[b, c] U (0, 0))) (hne : R ≠ H) : (((w.setCell ⟨R, 0, none⟩ u).setCell ⟨H, 0, none⟩ x).setCell ⟨H, 1, none⟩ y).heap[H]? = some (.cells #[x, y] U (0, 0)) :=
  two_set ((Below.heap_setCell _ _ _ _ (by simpa using Ne.symm hne)).trans hH)

theorem fin_below {w0 w : World} {B R H : Nat} {u x y : Value} (h : Below B w0 w) (hR : B ≤ R) (hH : B ≤ H) : Below B w0 (((w.setCell ⟨R, 0, none⟩ u).setCell ⟨H, 0, none⟩ x).setCell ⟨H, 1, none⟩ y) :=
  ((h.setCell hR _).setCell hH _).setCell hH _

theorem fin_own {w : World} {base R H : Nat} {u x y v : Value} {n : Nat} {xs : List Value} (h : w.ownsRow base 44 4 v n xs) (hR : R < base) (hH : H < base) : (((w.setCell ⟨R, 0, none⟩ u).setCell ⟨H, 0, none⟩ x).setCell ⟨H, 1, none⟩ y).ownsRow base 44 4 v n xs :=
  ownsRow_setCell_below (ownsRow_setCell_below (ownsRow_setCell_below h hR _) hH _) hH _

set_option maxHeartbeats 8000000 in
set_option maxRecDepth 100000 in
theorem put_any (v : Value) (l : List Sl) (key bk : Int) (w : World) (hv : SlAt w v l) :
    Calls Try.prog 18 #[.agg #[v], .int .i64 key, .int .i64 bk] w (PutRes (putOut l key bk) w) := by
  obtain ⟨p, c, rfl, hc, hm, pa⟩ := hv.parts
  unfold maxLen at hm
  obtain ⟨W0, hW0⟩ : ∃ W0, W0 = ((w.alloc (.cells #[.slice p l.length c] 24)).alloc (.cells #[.slice none 0 0] 24)).alloc (.cells #[.int .i64 0, .int .i64 0] 42) := ⟨_, rfl⟩
  have hb0 : Below w.heap.size w W0 := by rw [hW0]; exact (((Below.refl _ _).alloc (Nat.le_refl _) _).alloc (by simp) _).alloc (by simp; omega) _
  have hT0 : W0.heap[w.heap.size]? = some (.cells #[.slice p l.length c] 24 (0, 0)) := by rw [hW0]; exact heap_old _ _ (heap_old _ _ (heap_alloc_new _ _))
  have hR0 : W0.heap[w.heap.size + 1]? = some (.cells #[.slice none 0 0] 24 (0, 0)) := by rw [hW0]; exact heap_old _ _ (heap_second _ _ _)
  have hH0 : W0.heap[w.heap.size + 1 + 1]? = some (.cells #[.int .i64 0, .int .i64 0] 42 (0, 0)) := by rw [hW0]; have := heap_alloc_new ((w.alloc (.cells #[.slice p l.length c] 24)).alloc (.cells #[.slice none 0 0] 24)) (.cells #[.int .i64 0, .int .i64 0] 42); simpa using this
  have hs0 : W0.heap.size = w.heap.size + 3 := by rw [hW0]; simp
  have HV : Hid (_ ∧ _ ∧ _ ∧ _ ∧ _ ∧ _ ∧ _) := ⟨hv, hb0, hT0, hR0, hH0, hs0, hW0⟩
  clear hv hb0 hT0 hH0 hR0 hs0 hW0
  go_enter Try.func18, Try.ntmps18
  go_wp2_with fail
  rw [← HV.out.2.2.2.2.2.2]
  refine (check_any _ l _ (HV.out.1.below HV.out.2.1)).mono ?_
  rintro r w1 ⟨rfl, hb1⟩
  have hT1 := box_below HV.out.2.2.1 hb1
  have hR1 := box_below HV.out.2.2.2.1 hb1
  have hH1 := box_below HV.out.2.2.2.2.1 hb1
  have t0 := one_cell hT1
  have r0 := one_cell hR1
  have rf : w1.frozen? ⟨w.heap.size + 1, 0, none⟩ = false := by simp [World.frozen?, hR1]
  obtain ⟨h0, h1, hf0, hf1, _⟩ := two_cells hH1
  have hb01 := HV.out.2.1.trans (hb1.mono HV.out.2.1.size)
  have hl1 : w.heap.size + 1 + 1 < w1.heap.size := by have := hb1.size; have := HV.out.2.2.2.2.2.1; omega
  have hl2 : w.heap.size < w1.heap.size := by omega
  have hl3 : w.heap.size + 1 < w1.heap.size := by omega
  have hne : w.heap.size + 1 ≠ w.heap.size + 1 + 1 := by omega
  have H1 : Hid (_ ∧ _ ∧ _ ∧ _) := ⟨hT1, hR1, hH1, hb01⟩
  have bad : ∀ e, putOut l key bk = ([], (0, 0), e) → PutRes (putOut l key bk) w (.returned (.tuple #[.agg #[.slice none 0 0], .agg #[.int .i64 0, .int .i64 0], .int .i64 e])) (((w1.setCell ⟨w.heap.size + 1, 0, none⟩ (.slice none 0 0)).setCell ⟨w.heap.size + 1 + 1, 0, none⟩ (.int .i64 0)).setCell ⟨w.heap.size + 1 + 1, 1, none⟩ (.int .i64 0)) := fun e he => by
    rw [he]
    exact ⟨none, 0, rfl, World.ownsRow_nil _ _ _ _, fin_below hb01 (by omega) (by omega)⟩
  have HBad : Hid _ := bad
  clear bad hT1 hR1 hH1 hb1 hb01
  by_cases hok : TabOk l
  · rw [if_pos hok]
    cases hkb : decide (isKeyP key)
    · have hout : Hid (putOut l key bk = ([], (0, 0), 2)) := by show putOut l key bk = _; unfold putOut; rw [if_neg (not_not_intro hok), if_pos fun h => of_decide_eq_false hkb h.1]
      clear pa hok
      go_wp2_with fail
      refine (isKey_any _ _).mono ?_
      rw [hkb]
      rintro r w2 ⟨rfl, rfl⟩
      go_wp2
      exact bodyPost_ret (v := .tuple #[.agg #[.slice none 0 0], .agg #[.int .i64 0, .int .i64 0], .int .i64 2]) (results_cct Try.results18 rfl rfl rfl (load_row (P := Try.prog) (cs := [.slice none 0 0]) (fin_R H1.out.2.1 hne) Try.underlying24 rfl (by kernel_rfl)) (load_row (P := Try.prog) (cs := [.int .i64 0, .int .i64 0]) (fin_H H1.out.2.2.1 hne) Try.underlying42 rfl (by kernel_rfl))) rfl (HBad.out _ hout.out)
    cases hbb : decide (isBeP bk)
    · have hout : Hid (putOut l key bk = ([], (0, 0), 2)) := by show putOut l key bk = _; unfold putOut; rw [if_neg (not_not_intro hok), if_pos fun h => of_decide_eq_false hbb h.2]
      clear pa hok
      go_wp2_with fail
      refine (isKey_any _ _).mono ?_
      rw [hkb]
      rintro r w2 ⟨rfl, rfl⟩
      go_wp2_with fail
      refine (isBackend_any _ _).mono ?_
      rw [hbb]
      rintro r w2 ⟨rfl, rfl⟩
      go_wp2
      exact bodyPost_ret (v := .tuple #[.agg #[.slice none 0 0], .agg #[.int .i64 0, .int .i64 0], .int .i64 2]) (results_cct Try.results18 rfl rfl rfl (load_row (P := Try.prog) (cs := [.slice none 0 0]) (fin_R H1.out.2.1 hne) Try.underlying24 rfl (by kernel_rfl)) (load_row (P := Try.prog) (cs := [.int .i64 0, .int .i64 0]) (fin_H H1.out.2.2.1 hne) Try.underlying42 rfl (by kernel_rfl))) rfl (HBad.out _ hout.out)
    have hl40 := hok.1.2
    have hout0 : putOut l key bk = match find openB l with | none => ([], (0, 0), 9) | some k => (l.set k ((l.getD k (0, false, 0, 0)).1, true, key, bk), ((k : Int), (l.getD k (0, false, 0, 0)).1), 0) := by
      unfold putOut; rw [if_neg (not_not_intro hok), if_neg (not_not_intro ⟨of_decide_eq_true hkb, of_decide_eq_true hbb⟩)]
    clear hok
    cases hfd : find openB l with
    | none =>
      rw [hfd] at hout0
      have hout : Hid _ := hout0
      have hix : idxOf (find openB l) = -1 := by rw [hfd]; rfl
      have HI : Hid _ := hix
      clear hix hout0 pa hfd
      go_wp2_with fail
      refine (isKey_any _ _).mono ?_
      rw [hkb]
      rintro r w2 ⟨rfl, rfl⟩
      go_wp2_with fail
      refine (isBackend_any _ _).mono ?_
      rw [hbb]
      rintro r w2 ⟨rfl, rfl⟩
      go_wp2_with fail
      refine (index_open _ l _ (HV.out.1.below H1.out.2.2.2)).mono ?_
      rw [HI.out]
      rintro r w3 ⟨rfl, hb3⟩
      have hR3 := box_below H1.out.2.1 hb3
      have hH3 := box_below H1.out.2.2.1 hb3
      have s0 := one_cell hR3
      have sf : w3.frozen? ⟨w.heap.size + 1, 0, none⟩ = false := by simp [World.frozen?, hR3]
      obtain ⟨u0, u1, uf0, uf1, _⟩ := two_cells hH3
      have hb03 := H1.out.2.2.2.trans (hb3.mono H1.out.2.2.2.size)
      have H3 : Hid (_ ∧ _ ∧ _) := ⟨hR3, hH3, hb03⟩
      clear hR3 hH3 hb03 hb3 t0 r0 rf h0 h1 hf0 hf1
      go_wp2
      refine bodyPost_ret (v := .tuple #[.agg #[.slice none 0 0], .agg #[.int .i64 0, .int .i64 0], .int .i64 9]) (results_cct Try.results18 rfl rfl rfl (load_row (P := Try.prog) (cs := [.slice none 0 0]) (fin_R H3.out.1 hne) Try.underlying24 rfl (by kernel_rfl)) (load_row (P := Try.prog) (cs := [.int .i64 0, .int .i64 0]) (fin_H H3.out.2.1 hne) Try.underlying42 rfl (by kernel_rfl))) rfl ?_
      rw [hout.out]
      exact ⟨none, 0, rfl, World.ownsRow_nil _ _ _ _, fin_below H3.out.2.2 (by omega) (by omega)⟩
    | some k =>
      rw [hfd] at hout0
      replace hout0 : putOut l key bk = (l.set k ((l.getD k (0, false, 0, 0)).1, true, key, bk), ((k : Int), (l.getD k (0, false, 0, 0)).1), 0) := hout0
      obtain ⟨hk, hqk, _⟩ := find_lt hfd
      have hgd : l.getD k (0, false, 0, 0) = l[k] := by
        rw [List.getD_eq_getElem?_getD, List.getElem?_eq_getElem hk]
        rfl
      rw [hgd] at hout0
      have hix : idxOf (find openB l) = (k : Int) := by rw [hfd]; rfl
      have HI : Hid _ := hix
      obtain ⟨b1, o1, rfl, hb1, c1, _, _, _⟩ := pa k hk
      obtain ⟨gn, hgn⟩ : ∃ gn, gn = l[k].1 := ⟨_, rfl⟩
      rw [← hgn] at c1 hout0
      have hWi : Hid (∀ W y, SlAt W y l → Calls Try.prog 32 #[.agg #[y], .int .i64 k, .agg #[.int .i64 gn, .bool true, .int .i64 key, .int .i64 bk]] W fun r w' => ∃ p c, r = .returned (.agg #[.slice p l.length c]) ∧ w'.ownsRow W.heap.size 44 4 (.slice p l.length c) l.length (scells (l.set k (gn, true, key, bk))) ∧ Below W.heap.size W w') := fun W y hy => with_any y l k gn true key bk W hy hk hl40
      have hout : Hid _ := hout0
      have hkI : (k : Int) < (l.length : Int) := by omega
      clear hix hout0 pa hfd hgd hqk hgn
      go_wp2_with fail
      refine (isKey_any _ _).mono ?_
      rw [hkb]
      rintro r w2 ⟨rfl, rfl⟩
      go_wp2_with fail
      refine (isBackend_any _ _).mono ?_
      rw [hbb]
      rintro r w2 ⟨rfl, rfl⟩
      go_wp2_with fail
      refine (index_open _ l _ (HV.out.1.below H1.out.2.2.2)).mono ?_
      rw [HI.out]
      rintro r w3 ⟨rfl, hb3⟩
      have hT3 := box_below H1.out.1 hb3
      have hR3 := box_below H1.out.2.1 hb3
      have hH3 := box_below H1.out.2.2.1 hb3
      have hb03 := H1.out.2.2.2.trans (hb3.mono H1.out.2.2.2.size)
      have e1 := (hb03.cell (p := ⟨b1, o1 + k * 4, none⟩) hb1).trans c1
      have s0 := one_cell hT3
      obtain ⟨W4, hW4⟩ : ∃ W4, W4 = w3.alloc (.cells #[.int .i64 gn, .bool true, .int .i64 key, .int .i64 bk] 44) := ⟨_, rfl⟩
      have hx4 : Below w3.heap.size w3 W4 := by rw [hW4]; exact below_newC w3
      have hR4 := box_below hR3 hx4
      have hH4 := box_below hH3 hx4
      have hb04 := hb03.trans (hx4.mono hb03.size)
      have m0 : w.heap.size < w3.heap.size := by have := hb3.size; omega
      have H4 : Hid (_ ∧ _ ∧ _ ∧ _) := ⟨hR4, hH4, hb04, hW4⟩
      clear hT3 hR3 hH3 hb03 hb3 t0 r0 rf h0 h1 hf0 hf1 hx4 hR4 hH4 hb04 hW4 c1
      go_wp2_with fail
      rw [← H4.out.2.2.2]
      refine (hWi.out _ _ (HV.out.1.below H4.out.2.2.1)).mono ?_
      rintro r w5 ⟨q, d, rfl, ho5, hb5⟩
      have hR5 := box_below H4.out.1 hb5
      have hH5 := box_below H4.out.2.1 hb5
      have u0 := one_cell hR5
      have uf : w5.frozen? ⟨w.heap.size + 1, 0, none⟩ = false := by simp [World.frozen?, hR5]
      obtain ⟨x0, x1, xf0, xf1, _⟩ := two_cells hH5
      have hlt4 := (Array.getElem?_eq_some_iff.1 H4.out.2.1).1
      have H5 : Hid (_ ∧ _ ∧ _ ∧ _) := ⟨hR5, hH5, fin_own (R := w.heap.size + 1) (H := w.heap.size + 1 + 1) (u := .slice q l.length d) (x := .int .i64 (k : Int)) (y := .int .i64 gn) ho5 (by omega) (by omega), H4.out.2.2.1.trans (hb5.mono H4.out.2.2.1.size)⟩
      have hlt5 := H4.out.2.2.1.size
      clear hR5 hH5 ho5 hb5 e1 s0
      go_wp2
      refine bodyPost_ret (v := .tuple #[.agg #[.slice q l.length d], .agg #[.int .i64 (k : Int), .int .i64 gn], .int .i64 0]) (results_cct Try.results18 rfl rfl rfl (load_row (P := Try.prog) (cs := [.slice q l.length d]) (fin_R H5.out.1 hne) Try.underlying24 rfl (by kernel_rfl)) (load_row (P := Try.prog) (cs := [.int .i64 (k : Int), .int .i64 gn]) (fin_H H5.out.2.1 hne) Try.underlying42 rfl (by kernel_rfl))) rfl ?_
      rw [hout.out]
      refine ⟨q, d, ?_, ?_, fin_below H5.out.2.2.2 (by omega) (by omega)⟩
      · simp
      · simpa using H5.out.2.2.1.mono hlt5
  · rw [if_neg hok]
    have hout : Hid (putOut l key bk = ([], (0, 0), 6)) := by show putOut l key bk = _; unfold putOut; rw [if_pos hok]
    clear pa
    go_wp2
    exact bodyPost_ret (v := .tuple #[.agg #[.slice none 0 0], .agg #[.int .i64 0, .int .i64 0], .int .i64 6]) (results_cct Try.results18 rfl rfl rfl (load_row (P := Try.prog) (cs := [.slice none 0 0]) (fin_R H1.out.2.1 hne) Try.underlying24 rfl (by kernel_rfl)) (load_row (P := Try.prog) (cs := [.int .i64 0, .int .i64 0]) (fin_H H1.out.2.2.1 hne) Try.underlying42 rfl (by kernel_rfl))) rfl (HBad.out _ hout.out)
end Go.Proofs.Ythiojfgimjoenaa.Walks
