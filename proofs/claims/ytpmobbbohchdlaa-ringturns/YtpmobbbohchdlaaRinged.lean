/-
  A ring of some members: what it holds, and the weights by backend. The members can be read.
-/
import Derived.Test.YtpmobbbohchdlaaLAdds
import Derived.Test.YtpmobbbohchdlaaRemove
import Derived.Deep.CutRange
import Derived.WalkKit
import Derived.ProofKit
import Derived.Handy
import Derived.LoopTactic
import Derived.Below
import Derived.Laws.BitsAllLaws
import Derived.RegionTactic
import Derived.Deep.RegionHeld3
import Derived.Deep.DrawnRows
import Derived.Deep.AppendLies
import Derived.Laws.OwnMore
import Derived.Deep.Onto
import Derived.Deep.QuietTactic
import Derived.BigQuiet
namespace Go.Proofs.Ytpmobbbohchdlaa.Walks
open Go.RowKit
set_option linter.unusedVariables false
set_option linter.unusedSimpArgs false
attribute [local go_sem ↓] Go.wp_at_zero Go.wp_at_succ

theorem wt_zero {a : List Int} (b : Nat) (h : ¬ 0 < a.getD b 0) : wt a b = 0 := by unfold wt; omega

theorem raw_set_len {a : List Int} (b : Nat) (x : Int) (hb : b < a.length) (h0 : ¬ 0 < a.getD b 0) : ∀ n, (raw (a.set b x) n).length = (raw a n).length + if b < n then x.toNat * 4 else 0
  | 0 => by simp [raw]
  | n + 1 => by
    rw [raw, raw, List.length_append, List.length_append, spots1_len, spots1_len, raw_set_len b x hb h0 n, wt_set b n x hb]
    by_cases h : n = b
    · subst h
      rw [if_neg (by omega), if_pos rfl, if_pos (by omega), wt_zero n h0]
    · rw [if_neg h]
      by_cases h2 : b < n
      · rw [if_pos h2, if_pos (by omega)]; omega
      · rw [if_neg h2, if_neg (by omega)]; omega

theorem spots_set_len {a : List Int} (ha : Wts a) (b : Nat) (x : Int) (hb : b < 12) (h0 : ¬ 0 < a.getD b 0) : (spotsOf (a.set b x)).length = (spotsOf a).length + x.toNat * 4 := by
  unfold spotsOf
  rw [sortT_len, sortT_len, raw_set_len b x (by rw [ha.len]; exact hb) h0, if_pos hb]

/-- What ringed leaves. -/
def RingedRes (l : List Tm) (w : World) (r : Ending) (w' : World) : Prop := ∃ (a : List Int) (p : Option Addr) (c : Nat), r = .returned (.tuple #[.agg #[.slice p (spotsOf a).length c], .agg (icells a).toArray, .bool true]) ∧ Wts a ∧ w'.ownsRow w.heap.size 55 2 (.slice p (spotsOf a).length c) (spotsOf a).length (tcells (spotsOf a)) ∧ (l ≠ [] → 0 < (spotsOf a).length) ∧ Below w.heap.size w w'

theorem info12 : (Try.prog.info? 40).map (·.size) = some 12 := by kernel_rfl

theorem rep_zero (b : Nat) : (List.replicate 12 (0 : Int)).getD b 0 = 0 := by
  rw [List.getD_eq_getElem?_getD, List.getElem?_replicate]
  split <;> rfl

theorem wts_zero : Wts (List.replicate 12 0) := ⟨by simp, fun b => by rw [rep_zero]; omega, fun b => by rw [rep_zero]; omega⟩

theorem raw_zero : ∀ n, raw (List.replicate 12 0) n = []
  | 0 => rfl
  | n + 1 => by
    have h : wt (List.replicate 12 (0 : Int)) n = 0 := by
      unfold wt
      rw [rep_zero]
      rfl
    rw [raw, raw_zero n, h]
    rfl

theorem spots_zero : spotsOf (List.replicate 12 0) = [] := by
  unfold spotsOf
  rw [raw_zero]
  exact List.length_eq_zero_iff.1 (by rw [sortT_len]; rfl)

theorem one_frozen {w : World} {g : Nat} {a : Value} {T : TypeId} (h : w.heap[g]? = some (.cells #[a] T (0, 0))) : w.frozen? ⟨g, 0, none⟩ = false := by simp [World.frozen?, h]

theorem ringOk_spots {a : List Int} (h : Wts a) : RingOk (spotsOf a) := ⟨a, h, rfl⟩

/-- Add where all is well. -/
theorem add_fine (v : Value) (a : List Int) (b : Nat) (k : Int) (w : World) (ha : Wts a) (hv : TmAt w v (spotsOf a)) (hb : b < 12) (hk : 1 ≤ k ∧ k ≤ 8) (h0 : ¬ 0 < a.getD b 0) :
    Calls Try.prog 12 #[.agg #[v], .int .i64 (b : Int), .int .i64 k] w fun r w' => ∃ p c, r = .returned (.tuple #[.agg #[.slice p (spotsOf (a.set b k)).length c], .int .i64 0]) ∧ w'.ownsRow w.heap.size 55 2 (.slice p (spotsOf (a.set b k)).length c) (spotsOf (a.set b k)).length (tcells (spotsOf (a.set b k))) ∧ Below w.heap.size w w' :=
  (add_any v (spotsOf a) (b : Int) k w hv).mono fun r w' h => by
    obtain ⟨y, e, rfl, hbl, h⟩ := h
    rw [wOf_spotsOf ha, Int.toNat_natCast] at h
    have hok := ringOk_spots ha
    rcases h with ⟨h1, _⟩ | ⟨_, h2, _⟩ | ⟨_, _, h3, _⟩ | ⟨_, _, _, rfl, ho⟩
    · exact absurd hok h1
    · exact absurd ⟨⟨by omega, by omega⟩, hk⟩ h2
    · exact absurd h3 h0
    · obtain ⟨p, c, rfl⟩ := own_form ho
      exact ⟨p, c, rfl, ho, hbl⟩

set_option maxHeartbeats 8000000 in
set_option maxRecDepth 100000 in
theorem ringed_any (v : Value) (l : List Tm) (w : World) (hAt : TmAt w v l) (hwf : ∀ t ∈ l, (Lit.int .i64 t.1).wf = true ∧ (Lit.int .i64 t.2).wf = true) :
    Calls Try.prog 20 #[v] w (RingedRes l w) := by
  obtain ⟨va, vc, rfl, hvc, hvm, pv⟩ := hAt.parts
  unfold maxLen at hvm
  have HC : Hid (_ ∧ _ ∧ _) := ⟨hAt, hwf, pv⟩
  clear hAt hwf pv
  go_enter Try.func20, Try.ntmps20
  go_wp2
  rw [zeros12]
  obtain ⟨W0, hW0⟩ : ∃ W0, W0 = (((w.alloc (.cells #[.slice none 0 0] 24)).alloc (.cells (icells (List.replicate 12 0)).toArray 40)).alloc (.cells #[.slice none 0 0] 24)).alloc (.cells (icells (List.replicate 12 0)).toArray 40) := ⟨_, rfl⟩
  rw [← hW0]
  have hbW : Below w.heap.size w W0 := by rw [hW0]; exact ((((Below.refl _ _).alloc (Nat.le_refl _) _).alloc (by simp) _).alloc (by simp; omega) _).alloc (by simp; omega) _
  have hR0 : W0.heap[w.heap.size]? = some (.cells #[.slice none 0 0] 24 (0, 0)) := by rw [hW0]; exact heap_old _ _ (heap_old _ _ (heap_old _ _ (heap_alloc_new _ _)))
  have hA1 : Arr 40 12 W0 (w.heap.size + 1) (List.replicate 12 0) := by rw [hW0]; exact ⟨heap_old _ _ (heap_old _ _ (heap_second _ _ _)), by simp⟩
  have hR2 : W0.heap[w.heap.size + 1 + 1]? = some (.cells #[.slice none 0 0] 24 (0, 0)) := by rw [hW0]; exact heap_old _ _ (by have := heap_alloc_new ((w.alloc (.cells #[.slice none 0 0] 24)).alloc (.cells (icells (List.replicate 12 0)).toArray 40)) (.cells #[.slice none 0 0] 24); simpa using this)
  have hA3 : Arr 40 12 W0 (w.heap.size + 1 + 1 + 1) (List.replicate 12 0) := by rw [hW0]; exact ⟨by have := heap_alloc_new (((w.alloc (.cells #[.slice none 0 0] 24)).alloc (.cells (icells (List.replicate 12 0)).toArray 40)).alloc (.cells #[.slice none 0 0] 24)) (.cells (icells (List.replicate 12 0)).toArray 40); simpa using this, by simp⟩
  have H0 : Hid (_ ∧ _ ∧ _ ∧ _ ∧ _) := ⟨hbW, hR0, hA1, hR2, hA3⟩
  clear hbW hR0 hA1 hR2 hA3 hW0
  go_loopw [7] (fun t wr => ∃ (q : Nat) (p : Option Addr) (c : Nat) (a : List Int), t = .int .i64 q ∧ q ≤ l.length ∧ q ≤ 20 ∧ wr.heap[w.heap.size]? = some (.cells #[.slice none 0 0] 24 (0, 0)) ∧ Arr 40 12 wr (w.heap.size + 1) (List.replicate 12 0) ∧ wr.heap[w.heap.size + 1 + 1]? = some (.cells #[.slice p (spotsOf a).length c] 24 (0, 0)) ∧ Arr 40 12 wr (w.heap.size + 1 + 1 + 1) a ∧ wr.ownsRow (w.heap.size + 4) 55 2 (.slice p (spotsOf a).length c) (spotsOf a).length (tcells (spotsOf a)) ∧ Wts a ∧ (0 < q → 0 < (spotsOf a).length) ∧ Below w.heap.size w wr) (fun t _ => l.length - (intOf t).toNat)
  case atStart =>
    obtain ⟨h1, h2, h3, h4, h5⟩ := H0.out
    refine ⟨0, none, 0, List.replicate 12 0, rfl, Nat.zero_le _, Nat.zero_le _, h2, h3, ?_, h5, ?_, wts_zero, fun h => absurd h (Nat.lt_irrefl _), h1⟩
    · rw [spots_zero]; exact h4
    · rw [spots_zero]; exact World.ownsRow_nil _ _ _ _
  case round =>
    obtain ⟨q, p, c, a, rfl, hq, hq20, hR0, hA1, hR2, hA3, hO, hW, hP, hbr⟩ := hrel
    have hcR := one_cell hR2
    by_cases hlt : q < l.length ∧ q < 20
    · obtain ⟨hl1, hl2⟩ := hlt
      obtain ⟨b0, off, rfl, hb0, e1, e2⟩ := HC.out.2.2 q hl1
      have f1 := (hbr.cell (p := ⟨b0, off + q * 2, none⟩) hb0).trans e1
      have f2 := (hbr.cell (p := ⟨b0, off + q * 2 + 1, none⟩) hb0).trans e2
      have hwq := HC.out.2.1 l[q] (List.getElem_mem hl1)
      obtain ⟨j, hj, HJ⟩ := picked_some l[q].1 12 hwq.1 (by omega) (by omega)
      obtain ⟨x, hx, HX⟩ := picked_some l[q].2 8 hwq.2 (by omega) (by omega)
      generalize l[q].1 = lid at *
      generalize l[q].2 = lin at *
      have g1 := hA3.at j hj
      have g2 := hA3.frozen j
      have hb0n : b0 < w.heap.size := hb0
      have HR : Hid (_ ∧ _ ∧ _ ∧ _ ∧ _ ∧ _ ∧ _ ∧ _ ∧ _ ∧ _) := ⟨hR0, hA1, hR2, hA3, hO, hW, hP, hbr, HJ, HX⟩
      clear hR0 hA1 hR2 hA3 hO hW hP hbr HJ HX e1 e2 hb0 hwq
      generalize hy : a.getD j 0 = y at *
      have HYy : Hid _ := hy
      clear hy
      have hl1I : (q : Int) < (l.length : Int) := by omega
      have hl2I : (q : Int) < 20 := by omega
      have hjI : (j : Int) < 12 := by omega
      by_cases hpos : 0 < y
      · go_wp2_with fail
        refine (HR.out.2.2.2.2.2.2.2.2.1 _).mono ?_
        rintro r w3 ⟨rfl, rfl⟩
        go_wp2
        go_roundw
        case rel =>
          obtain ⟨h1, h2, h3, h4, h5, h6, h7, h8, _, _⟩ := HR.out
          refine ⟨q + 1, p, c, a, by simp, hl1, hl2, h1, h2, h3, h4, h5, h6, fun _ => ?_, h8⟩
          obtain ⟨t, ht, _⟩ := has_spot (ringOk_spots h6) j hj (by rw [wOf_spotsOf h6, HYy.out]; exact hpos)
          exact List.length_pos_of_mem ht
        case measure => simp [intOf]; omega
      · go_wp2_with fail
        refine (HR.out.2.2.2.2.2.2.2.2.1 _).mono ?_
        rintro r w3 ⟨rfl, rfl⟩
        go_wp2_with fail
        refine (HR.out.2.2.2.2.2.2.2.2.2 _).mono ?_
        rintro r w3 ⟨rfl, rfl⟩
        go_wp2_with fail
        obtain ⟨W3, hW3⟩ : ∃ W3, W3 = w3.setCell ⟨w.heap.size + 1 + 1 + 1, j, none⟩ (.int .i64 (1 + x)) := ⟨_, rfl⟩
        rw [← hW3]
        obtain ⟨hR0, hA1, hR2, hA3, hO, hW, hP, hbr, _, _⟩ := HR.out
        have hR0' : W3.heap[w.heap.size]? = some (.cells #[.slice none 0 0] 24 (0, 0)) := by rw [hW3]; exact (Below.heap_setCell _ _ _ _ (by simp; omega)).trans hR0
        have hA1' : Arr 40 12 W3 (w.heap.size + 1) (List.replicate 12 0) := by rw [hW3]; exact hA1.other (by simp) _
        have hR2' : W3.heap[w.heap.size + 1 + 1]? = some (.cells #[.slice p (spotsOf a).length c] 24 (0, 0)) := by rw [hW3]; exact (Below.heap_setCell _ _ _ _ (by simp)).trans hR2
        have hA3' : Arr 40 12 W3 (w.heap.size + 1 + 1 + 1) (a.set j (1 + x)) := by rw [hW3]; exact hA3.set j _
        have hO' : W3.ownsRow (w.heap.size + 4) 55 2 (.slice p (spotsOf a).length c) (spotsOf a).length (tcells (spotsOf a)) := by rw [hW3]; exact own_block hO (fun g hg => Below.heap_setCell _ _ _ _ (by have := (hO.lt g hg).1; simp; omega))
        have hbr' : Below w.heap.size w W3 := by rw [hW3]; exact hbr.setCell (by simp; omega) _
        have hy0 : ¬ 0 < a.getD j 0 := by rw [HYy.out]; omega
        have g3 : W3.cell? ⟨w.heap.size + 1 + 1 + 1, j, none⟩ = some (.int .i64 (1 + x)) := by
          rw [hA3'.at j hj, List.getD_eq_getElem?_getD, List.getElem?_set_self (by rw [hW.len]; exact hj)]
          rfl
        have hcR3 := one_cell hR2'
        have hw9 := hW.set j (1 + x) (by omega) (by omega)
        have hln := spots_set_len hW j (1 + (x : Int)) hj hy0
        have HA : Hid (∀ W, Below W3.heap.size W3 W → Calls Try.prog 12 #[.agg #[.slice p (spotsOf a).length c], .int .i64 j, .int .i64 (1 + x)] W fun r w' => ∃ p' c', r = .returned (.tuple #[.agg #[.slice p' (spotsOf (a.set j (1 + x))).length c'], .int .i64 0]) ∧ w'.ownsRow W.heap.size 55 2 (.slice p' (spotsOf (a.set j (1 + x))).length c') (spotsOf (a.set j (1 + x))).length (tcells (spotsOf (a.set j (1 + x)))) ∧ Below W.heap.size W w' ∧ Below W3.heap.size W3 W) := fun W hWW =>
          (add_fine _ a j (1 + x) W hW ((TmAt.below (rowAt_own hO') hWW)) hj ⟨by omega, by omega⟩ hy0).mono fun r w' ⟨p', c', h1, h2, h3⟩ => ⟨p', c', h1, h2, h3, hWW⟩
        have tlt := hA3'.lt
        obtain ⟨a', ha'⟩ : ∃ a', a' = a.set j (1 + (x : Int)) := ⟨_, rfl⟩
        rw [← ha'] at hA3' hw9 hln HA
        obtain ⟨m', hm'⟩ : ∃ m', m' = spotsOf a' := ⟨_, rfl⟩
        rw [← hm'] at hln HA
        obtain ⟨m, hm⟩ : ∃ m, m = spotsOf a := ⟨_, rfl⟩
        rw [← hm] at hln hO' hR2' hcR3 HA
        have H3 : Hid (_ ∧ _ ∧ _ ∧ _ ∧ _ ∧ _ ∧ _ ∧ _) := ⟨hR0', hA1', hR2', hA3', hw9, hbr', hm', hO'⟩
        have hln3 : m'.length ≤ 384 := by rw [hm']; exact spotsOf_len hw9
        have hlI : ((m'.length : Int) != (m.length : Int) + 4 * (1 + (x : Int))) = false := by simp; omega
        have hl0 : m.length ≤ 384 := by omega
        have hlW : ((m'.length : Int) != wrap64 ((m.length : Int) + 4 * (1 + (x : Int)))) = false := by
          rw [show wrap64 ((m.length : Int) + 4 * (1 + (x : Int))) = (m.length : Int) + 4 * (1 + (x : Int)) by unfold wrap64; omega]
          exact hlI
        have hlt7 : w.heap.size + 1 + 1 < W3.heap.size := by omega
        have hln2 : 0 < m'.length := by omega
        clear hR0 hA1 hR2 hA3 hO hW hP hbr hR0' hA1' hR2' hA3' hO' hbr' hw9 hW3 g1 g2 f1 f2 hcR hm hm' hln ha' hy0
        go_upto_region 9 with fail
        go_cut [9, 10] from 40 to 67 (fun b e wx => ∃ p' c' g, b = .pointer (some ⟨g, 0, none⟩) ∧ e = .int .i64 0 ∧ wx.heap[g]? = some (.cells #[.slice p' m'.length c'] 24 (0, 0)) ∧ wx.ownsRow W3.heap.size 55 2 (.slice p' m'.length c') m'.length (tcells m') ∧ Below W3.heap.size W3 wx ∧ W3.heap.size ≤ g)
        case first =>
          go_region_with (first | (go_at_call 12; refine (HA.out _ (by first | exact (Below.refl _ _).drew | exact ((Below.refl _ _).drew).alloc (by simp) _ | exact ((Below.refl _ _).alloc (Nat.le_refl _) _).drew)).mono ?_; rintro r w4 ⟨p', c', rfl, hO4, hb4, hb3⟩; obtain ⟨hc4, hf4⟩ := bcell hb4))
          all_goals
            go_wp2_with fail
            go_meet
            first
            | exact ⟨p', c', w4.heap.size, rfl, rfl, heap_alloc_new _ _, (hO4.alloc _).mono hb3.size, (hb3.trans (hb4.mono hb3.size)).alloc (Nat.le_trans hb3.size hb4.size) _, Nat.le_trans hb3.size hb4.size⟩
            | exact ⟨p', c', W3.heap.size, rfl, rfl, one_set ((hb4.block W3.heap.size (by simp)).trans (heap_alloc_new W3 _)), (own_block hO4 (fun g hg => Below.heap_setCell _ _ _ _ (by have := (hO4.lt g hg).1; simp at this ⊢; omega))).mono hb3.size, (hb3.trans (hb4.mono hb3.size)).setCell (by simp) _, Nat.le_refl _⟩
        case rest =>
        obtain ⟨p', c', g, rfl, rfl, hXg, hO4, hb4, hg⟩ := hcut
        obtain ⟨hR0', hA1', hR2', hA3', hw9, hbr', hm', hO'⟩ := H3.out
        have z0 := one_cell hXg
        have y0 := one_cell (box_below hR2' hb4)
        have yf := one_frozen (box_below hR2' hb4)
        have g4 := (hb4.cell (p := ⟨w.heap.size + 1 + 1 + 1, j, none⟩) tlt).trans g3
        have H5 : Hid (_ ∧ _ ∧ _ ∧ _ ∧ _ ∧ _ ∧ _ ∧ _) := ⟨box_below hR0' hb4, hA1'.below hb4, box_below hR2' hb4, hA3'.below hb4, hO4, hw9, hbr'.trans (hb4.mono hbr'.size), hm'⟩
        clear hXg hO4 hb4 hR0' hA1' hR2' hA3' hw9 hbr' hm' hO' g3
        go_wp2
        go_region
        go_wp2
        go_roundw
        case rel =>
          obtain ⟨h1, h2, h3, h4, h5, h6, h7, h8⟩ := H5.out
          subst h8
          refine ⟨q + 1, p', c', _, by simp, hl1, hl2, ?_, ?_, one_set h3, ?_, ?_, h6, fun _ => hln2, ?_⟩
          · exact (Below.heap_setCell _ _ _ _ (by simp; omega)).trans h1
          · exact h2.other (by simp) _
          · exact h4.other (by simp) _
          · exact (own_block (h5.drew) (fun g hg => Below.heap_setCell _ _ _ _ (by have := (h5.lt g hg).1; simp; omega))).mono (by omega)
          · exact h7.drew.setCell (by simp; omega) _
        case measure => simp [intOf]; omega
    · have hcmp : (l.length : Int) ≤ (q : Int) ∨ ((q : Int) < (l.length : Int) ∧ (20 : Int) ≤ (q : Int)) := by omega
      have hpos : l ≠ [] → 0 < (spotsOf a).length := fun h => hP (by have := List.length_pos_iff.2 h; omega)
      obtain ⟨w2, hw2⟩ : ∃ w2, w2 = wr.setCell ⟨w.heap.size, 0, none⟩ (.slice p (spotsOf a).length c) := ⟨_, rfl⟩
      have rf := one_frozen hR0
      have rc := one_cell hR0
      have hA3' : Arr 40 12 w2 (w.heap.size + 1 + 1 + 1) a := by rw [hw2]; exact hA3.other (by simp; omega) _
      have hA1' : Arr 40 12 w2 (w.heap.size + 1) (List.replicate 12 0) := by rw [hw2]; exact hA1.other (by simp) _
      have hR0' : w2.heap[w.heap.size]? = some (.cells #[.slice p (spotsOf a).length c] 24 (0, 0)) := by rw [hw2]; exact one_set hR0
      have hR2' : w2.heap[w.heap.size + 1 + 1]? = some (.cells #[.slice p (spotsOf a).length c] 24 (0, 0)) := by rw [hw2]; exact (Below.heap_setCell _ _ _ _ (by simp; omega)).trans hR2
      have hA1'' := ((show Arr 40 12 w2.drew (w.heap.size + 1) (List.replicate 12 0) from hA1').store (P := Try.prog) (b := a) hW.len info12).2
      have hA3'' : Arr 40 12 (w2.drew.setCells (w.heap.size + 1) 0 (icells a)) (w.heap.size + 1 + 1 + 1) a := hA3'.keep (World.heap_setCells_other w2.drew _ _ _ hA3'.lt (by omega))
      have hR2'' : (w2.drew.setCells (w.heap.size + 1) 0 (icells a)).heap[w.heap.size + 1 + 1]? = some (.cells #[.slice p (spotsOf a).length c] 24 (0, 0)) := (World.heap_setCells_other w2.drew _ _ _ (Array.getElem?_eq_some_iff.1 hR2').1 (by omega)).trans hR2'
      have hR0'' : (w2.drew.setCells (w.heap.size + 1) 0 (icells a)).heap[w.heap.size]? = some (.cells #[.slice p (spotsOf a).length c] 24 (0, 0)) := (World.heap_setCells_other w2.drew _ _ _ (Array.getElem?_eq_some_iff.1 hR0').1 (by omega)).trans hR0'
      have F1 : wr.cell? ⟨w.heap.size + 1 + 1, 0, none⟩ = some (.slice p (spotsOf a).length c) ∧ wr.rangeAt (w.heap.size + 1 + 1 + 1) 0 (icells a) ∧ wr.there (w.heap.size + 1) 0 12 := ⟨hcR, hA3.range, hA1.there⟩
      have F2 : w2.cell? ⟨w.heap.size + 1 + 1, 0, none⟩ = some (.slice p (spotsOf a).length c) ∧ w2.rangeAt (w.heap.size + 1 + 1 + 1) 0 (icells a) ∧ w2.there (w.heap.size + 1) 0 12 := ⟨one_cell hR2', hA3'.range, hA1'.there⟩
      have F3 : (w2.drew.setCells (w.heap.size + 1) 0 (icells a)).cell? ⟨w.heap.size + 1 + 1, 0, none⟩ = some (.slice p (spotsOf a).length c) ∧ (w2.drew.setCells (w.heap.size + 1) 0 (icells a)).rangeAt (w.heap.size + 1 + 1 + 1) 0 (icells a) ∧ (w2.drew.setCells (w.heap.size + 1) 0 (icells a)).there (w.heap.size + 1) 0 12 := ⟨one_cell hR2'', hA3''.range, hA1''.there⟩
      have hO2 : (w2.drew.setCells (w.heap.size + 1) 0 (icells a)).ownsRow w.heap.size 55 2 (.slice p (spotsOf a).length c) (spotsOf a).length (tcells (spotsOf a)) := by
        have h1 : w2.drew.ownsRow (w.heap.size + 4) 55 2 (.slice p (spotsOf a).length c) (spotsOf a).length (tcells (spotsOf a)) := by
          rw [hw2]
          exact own_block hO (fun g hg => Below.heap_setCell _ _ _ _ (by have := (hO.lt g hg).1; simp; omega))
        exact (own_block h1 (fun g hg => World.heap_setCells_other w2.drew _ _ _ (h1.lt g hg).2 (by have := (h1.lt g hg).1; omega))).mono (by omega)
      have hb2 : Below w.heap.size w (w2.drew.setCells (w.heap.size + 1) 0 (icells a)) := by
        have h1 : Below w.heap.size w w2.drew := by rw [hw2]; exact (hbr.setCell (by simp) _).drew
        exact below_setCells h1 (by omega) _ _ h1.size
      have hu12 := Try.underlying40
      have hi12 : (Try.prog.info? 40).map (·.size) = some (icells a).length := by rw [info12, icells_len, hW.len]
      have hl12 : (icells a).length = 12 := by rw [icells_len, hW.len]
      have ho12 := icells_one a
      rw [hw2] at F2 F3 hA1'' hR0'' hO2 hb2
      have G1 : Hid _ := F1
      have G2 : Hid _ := F2
      have G3 : Hid _ := F3
      have H9 : Hid (_ ∧ _ ∧ _ ∧ _ ∧ _ ∧ _) := ⟨hA1'', hR0'', hO2, hb2, hW, hpos⟩
      clear hR0 hA1 hR2 hA3 hO hW hP hbr hlt hw2 hA3' hA1' hR0' hR2' hA1'' hA3'' hR2'' hR0'' F1 F2 F3 hO2 hb2 hpos
      rcases hcmp with h1 | ⟨h1, h2⟩
      all_goals
        go_wp2
        go_region_held3 (fun W => W.cell? ⟨w.heap.size + 1 + 1, 0, none⟩ = some (.slice p (spotsOf a).length c) ∧ W.rangeAt (w.heap.size + 1 + 1 + 1) 0 (icells a) ∧ W.there (w.heap.size + 1) 0 12) (first | exact G1.out | exact G2.out | exact G3.out) (fail)
        all_goals go_wp2
        all_goals
          obtain ⟨hA, hR, hO2, hb2, hS, hpos⟩ := H9.out
          have hV := hA.loadV Try.underlying40 rfl info12
          have hU := load_row (P := Try.prog) (cs := [.slice p (spotsOf a).length c]) hR Try.underlying24 rfl (by kernel_rfl)
          refine bodyPost_ret (v := .tuple #[.agg #[.slice p (spotsOf a).length c], .agg (icells a).toArray, .bool true]) (results_cct Try.results20 rfl rfl rfl hU hV) rfl ⟨a, p, c, rfl, hS, hO2, hpos, hb2⟩
end Go.Proofs.Ytpmobbbohchdlaa.Walks
