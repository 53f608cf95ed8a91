/-
  The document's changedSlot. Condition: the slots can be read, and are at most 40.
-/
import Derived.Test.YtilcjcbghpbkjaaWith
import Derived.Deep.RegionLaw
import Derived.WalkKit
import Derived.ProofKit
import Derived.Handy
import Derived.LoopTactic
import Derived.Below
import Derived.Laws.BitsAllLaws
import Derived.RegionTactic
import Derived.Deep.RegionHeld3
import Derived.Deep.DrawnRows
import Derived.Deep.AppendLies
import Derived.Laws.OwnMore
import Derived.Deep.Onto
import Derived.Deep.QuietTactic
import Derived.BigQuiet
namespace Go.Proofs.Ytilcjcbghpbkjaa.Walks
open Go.RowKit
set_option linter.unusedVariables false
set_option linter.unusedSimpArgs false
attribute [local go_sem ↓] Go.wp_at_zero Go.wp_at_succ

/-- One slot more: the run. -/
theorem append_oneS {w : World} {base : Nat} {p : Option Addr} {k c : Nat} {m : List Sl} (ho : w.ownsRow base 39 4 (.slice p k c) k (scells m)) (hb : base ≤ w.heap.size) (hk : k ≤ 1000) (ty : TypeId) (x1 : Int) (x2 : Bool) (x3 x4 : Int) :
    ∃ p' c' w', (Builtin.append_ #[22, 22] ty #[.slice p k c, .slice (some ⟨w.heap.size, 0, none⟩) 1 1]).run Try.prog (w.alloc (.cells #[.int .i64 x1, .bool x2, .int .i64 x3, .int .i64 x4] 39)) = .ok (.slice p' (k + 1) c') w' ∧
      w'.ownsRow base 39 4 (.slice p' (k + 1) c') (k + 1) (scells (m ++ [(x1, x2, x3, x4)])) ∧ Below base w w' := by
  obtain ⟨i0, hi, hz0, hz1, hz2⟩ := info_parts infoSl
  have hn := news_at w (scells [(x1, x2, x3, x4)]) 39
  obtain ⟨v', w', hr, ho', hg, _⟩ := run_append_own (P := Try.prog) (w.alloc (.cells #[.int .i64 x1, .bool x2, .int .i64 x3, .int .i64 x4] 39)) base 22 ty 39 i0 _ 4 32 Try.underlying22 hi hz0 hz1 hz2 rfl (by decide) (.slice p k c) k (scells m) (ho.alloc _) ⟨w.heap.size, 0, none⟩ 1 1 (scells [(x1, x2, x3, x4)]) rfl hn (scells_one _) (by unfold maxLen; omega) (by omega) (by simp; omega)
  rw [← scells_append] at ho'
  obtain ⟨p', c', rfl⟩ := own_form ho'
  refine ⟨p', c', w', hr, ho', ?_⟩
  exact ((Below.refl _ _).alloc hb _).grown hg (by simp; omega) (fun j e => (ho.lt j e).1)

/-- A slot more in a table's box: the run, and what it leaves. -/
theorem next_slot {W0 wr : World} {B base : Nat} {p' : Option Addr} {k c' : Nat} {m m' : List Sl} (y1 : Int) (y2 : Bool) (y3 y4 : Int) (hO : wr.heap[B]? = some (.cells #[.slice p' k c'] 24 (0, 0))) (ho : wr.ownsRow base 39 4 (.slice p' k c') k (scells m)) (hB : base = B + 1) (hbr : Below B W0 wr) (hsr : base ≤ wr.heap.size) (hk : k ≤ 1000) (he : m' = m ++ [(y1, y2, y3, y4)]) :
    ∃ q d w', (Builtin.append_ #[22, 22] 22 #[.slice p' k c', .slice (some ⟨wr.heap.size, 0, none⟩) 1 1]).run Try.prog (wr.alloc (.cells #[.int .i64 y1, .bool y2, .int .i64 y3, .int .i64 y4] 39)) = .ok (.slice q (k + 1) d) w' ∧ w'.cell? ⟨B, 0, none⟩ = some (.slice p' k c') ∧ w'.frozen? ⟨B, 0, none⟩ = false ∧
      (w'.setCell ⟨B, 0, none⟩ (.slice q (k + 1) d)).heap[B]? = some (.cells #[.slice q (k + 1) d] 24 (0, 0)) ∧ (w'.setCell ⟨B, 0, none⟩ (.slice q (k + 1) d)).ownsRow base 39 4 (.slice q (k + 1) d) (k + 1) (scells m') ∧ Below B W0 (w'.setCell ⟨B, 0, none⟩ (.slice q (k + 1) d)) ∧ wr.heap.size ≤ (w'.setCell ⟨B, 0, none⟩ (.slice q (k + 1) d)).heap.size := by
  obtain ⟨q, d, w', hr, ho', hb'⟩ := append_oneS ho (by omega) hk 22 y1 y2 y3 y4
  rw [← he] at ho'
  have hO' := (hb'.block B (by omega)).trans hO
  have hsz := hb'.size
  refine ⟨q, d, w', hr, one_cell hO', by simp [World.frozen?, hO'], one_set hO', own_block ho' (fun g hg => Below.heap_setCell _ _ _ _ (by have := (ho'.lt g hg).1; simp; omega)), (hbr.trans (hb'.mono (by omega))).setCell (by simp) _, by simpa using hsz⟩

theorem take_set_at {l : List Sl} {k : Nat} (h : k < l.length) (x : Sl) : (l.set k x).take (k + 1) = (l.set k x).take k ++ [x] := by
  rw [List.take_succ_eq_append_getElem (by simpa using h)]
  simp

theorem take_set_other {l : List Sl} {k at_ : Nat} (h : k < l.length) (x : Sl) (hne : k ≠ at_) : (l.set at_ x).take (k + 1) = (l.set at_ x).take k ++ [l[k]] := by
  rw [List.take_succ_eq_append_getElem (by simpa using h), List.getElem_set_ne (Ne.symm hne)]

set_option maxHeartbeats 8000000 in
set_option maxRecDepth 100000 in
theorem changed_any (v : Value) (l : List Sl) (i : Nat) (x1 : Int) (x2 : Bool) (x3 x4 : Int) (w : World) (hv : SlAt w v l) (hi : i < l.length) (hl : l.length ≤ 40) :
    Calls Try.prog 32 #[.agg #[v], .int .i64 i, .agg #[.int .i64 x1, .bool x2, .int .i64 x3, .int .i64 x4]] w fun r w' => ∃ p c, r = .returned (.agg #[.slice p l.length c]) ∧ w'.ownsRow w.heap.size 39 4 (.slice p l.length c) l.length (scells (l.set i (x1, x2, x3, x4))) ∧ Below w.heap.size w w' := by
  obtain ⟨p, c, rfl, hc, hm, pa⟩ := hv.parts
  unfold maxLen at hm
  obtain ⟨W0, hW0⟩ : ∃ W0, W0 = (((w.alloc (.cells #[.slice p l.length c] 24)).alloc (.cells #[.int .i64 x1, .bool x2, .int .i64 x3, .int .i64 x4] 39)).alloc (.cells #[.slice none 0 0] 24)).alloc (.cells #[.slice none 0 0] 24) := ⟨_, rfl⟩
  have hb0 : Below w.heap.size w W0 := by rw [hW0]; exact ((((Below.refl _ _).alloc (Nat.le_refl _) _).alloc (by simp) _).alloc (by simp; omega) _).alloc (by simp; omega) _
  have hT0 : W0.heap[w.heap.size]? = some (.cells #[.slice p l.length c] 24 (0, 0)) := by rw [hW0]; exact heap_old _ _ (heap_old _ _ (heap_old _ _ (heap_alloc_new _ _)))
  have hS0 : W0.heap[w.heap.size + 1]? = some (.cells #[.int .i64 x1, .bool x2, .int .i64 x3, .int .i64 x4] 39 (0, 0)) := by rw [hW0]; exact heap_old _ _ (heap_old _ _ (heap_second _ _ _))
  have hR0 : W0.heap[w.heap.size + 1 + 1]? = some (.cells #[.slice none 0 0] 24 (0, 0)) := by rw [hW0]; exact heap_old _ _ (by have := heap_alloc_new ((w.alloc (.cells #[.slice p l.length c] 24)).alloc (.cells #[.int .i64 x1, .bool x2, .int .i64 x3, .int .i64 x4] 39)) (.cells #[.slice none 0 0] 24); simpa using this)
  have hO0 : W0.heap[w.heap.size + 1 + 1 + 1]? = some (.cells #[.slice none 0 0] 24 (0, 0)) := by rw [hW0]; have := heap_alloc_new (((w.alloc (.cells #[.slice p l.length c] 24)).alloc (.cells #[.int .i64 x1, .bool x2, .int .i64 x3, .int .i64 x4] 39)).alloc (.cells #[.slice none 0 0] 24)) (.cells #[.slice none 0 0] 24); simpa using this
  have hs0 : W0.heap.size = w.heap.size + 4 := by rw [hW0]; simp
  have HV : Hid (_ ∧ _ ∧ _ ∧ _ ∧ _ ∧ _ ∧ _) := ⟨hv, hb0, hT0, hS0, hR0, hO0, hs0⟩
  go_enter Try.func32, Try.ntmps32
  go_wp2
  rw [← hW0]
  clear hv hb0 hT0 hS0 hR0 hO0 hs0 hW0
  go_loopw [8] (fun s8 wr => ∃ (k : Nat) (p' : Option Addr) (c' : Nat), s8 = .int .i64 k ∧ k ≤ l.length ∧ wr.heap[w.heap.size + 1 + 1 + 1]? = some (.cells #[.slice p' k c'] 24 (0, 0)) ∧ wr.ownsRow (w.heap.size + 4) 39 4 (.slice p' k c') k (scells ((l.set i (x1, x2, x3, x4)).take k)) ∧ Below (w.heap.size + 3) W0 wr ∧ W0.heap.size ≤ wr.heap.size) (fun s8 _ => l.length - (intOf s8).toNat)
  case atStart => exact ⟨0, none, 0, rfl, Nat.zero_le _, HV.out.2.2.2.2.2.1, World.ownsRow_nil _ _ _ _, Below.refl _ _, Nat.le_refl _⟩
  case round =>
    obtain ⟨k, p', c', rfl, hk, hO, ho, hbr, hsr⟩ := hrel
    have hs0 := HV.out.2.2.2.2.2.2
    have hT := (hbr.block (w.heap.size) (by omega)).trans HV.out.2.2.1
    have hS := (hbr.block (w.heap.size + 1) (by omega)).trans HV.out.2.2.2.1
    have hR := (hbr.block (w.heap.size + 1 + 1) (by omega)).trans HV.out.2.2.2.2.1
    have t0 := one_cell hT
    have o0 := one_cell hO
    have of0 : wr.frozen? ⟨w.heap.size + 1 + 1 + 1, 0, none⟩ = false := by simp [World.frozen?, hO]
    have r0 := one_cell hR
    have rf0 : wr.frozen? ⟨w.heap.size + 1 + 1, 0, none⟩ = false := by simp [World.frozen?, hR]
    obtain ⟨⟨j0, j1, j2, j3⟩, _⟩ := box4 hS
    have hltS : w.heap.size + 1 + 1 + 1 < wr.heap.size := by omega
    have hbw : Below w.heap.size w wr := HV.out.2.1.trans (hbr.mono (by omega))
    by_cases hlt : k < l.length
    · have hkI : (k : Int) < (l.length : Int) := by omega
      by_cases hat : k = i
      · subst hat
        obtain ⟨q, d, w', hr, z0, z1, z2, z3, z4, z5⟩ := next_slot x1 x2 x3 x4 hO ho (by omega) hbr (by omega) (by omega) (take_set_at hlt _)
        have HR : Hid (_ ∧ _ ∧ _ ∧ _ ∧ _) := ⟨hr, z2, z3, z4, z5⟩
        clear hr z2 z3 z4 z5 hT hS hR hO ho hbr hbw pa
        go_wp2_with (at_builtin; (with_reducible refine wpList_append_eq rfl _ _ 22 rfl (.slice p' k c') (.slice (some ⟨wr.heap.size, 0, none⟩) 1 1) (.slice q (k + 1) d) w' ?hs ?hx ?hr ?_); (case hs => rfl); (case hx => rfl); (case hr => exact HR.out.1))
        go_roundw
        case rel => exact ⟨k + 1, q, d, by simp, hlt, HR.out.2.1, HR.out.2.2.1, HR.out.2.2.2.1, Nat.le_trans hsr HR.out.2.2.2.2⟩
        case measure => simp [intOf]; omega
      · obtain ⟨b1, o1, rfl, hb1, c1, c2, c3, c4⟩ := pa k hlt
        have e1 := (hbw.cell (p := ⟨b1, o1 + k * 4, none⟩) hb1).trans c1
        have e2 := (hbw.cell (p := ⟨b1, o1 + k * 4 + 1, none⟩) hb1).trans c2
        have e3 := (hbw.cell (p := ⟨b1, o1 + k * 4 + 2, none⟩) hb1).trans c3
        have e4 := (hbw.cell (p := ⟨b1, o1 + k * 4 + 3, none⟩) hb1).trans c4
        have hts := take_set_other hlt (x1, x2, x3, x4) hat
        obtain ⟨⟨y1, y2, y3, y4⟩, hxk⟩ : ∃ x, x = l[k] := ⟨_, rfl⟩
        rw [← hxk] at e1 e2 e3 e4 hts
        obtain ⟨q, d, w', hr, z0, z1, z2, z3, z4, z5⟩ := next_slot (wr := wr.drew) y1 y2 y3 y4 hO ho (by omega) hbr.drew (by simp; omega) (by omega) hts
        have hr' : (Builtin.append_ #[22, 22] 22 #[.slice p' k c', .slice (some ⟨wr.heap.size, 0, none⟩) 1 1]).run Try.prog ((wr.alloc (.cells #[.int .i64 y1, .bool y2, .int .i64 y3, .int .i64 y4] 39)).drew) = .ok (.slice q (k + 1) d) w' := hr
        have HR : Hid (_ ∧ _ ∧ _ ∧ _ ∧ _) := ⟨hr', z2, z3, z4, z5⟩
        have hne : ((k : Int) == (i : Int)) = false := by rw [beq_eq_false_iff_ne]; omega
        clear hr hr' z2 z3 z4 z5 hT hS hR hO ho hbr hbw pa c1 c2 c3 c4 hb1 hts hxk
        go_wp2
        go_region_law (first | (refine step_append_eq (by rfl) _ _ 22 (by rfl) _ _ _ _ (by rfl) (by rfl) HR.out.1 ?_))
        all_goals
          go_wp2
          go_roundw
          case rel => exact ⟨k + 1, q, d, by simp, hlt, HR.out.2.1, HR.out.2.2.1, HR.out.2.2.2.1, Nat.le_trans hsr HR.out.2.2.2.2⟩
          case measure => simp [intOf]; omega
    · obtain rfl : k = l.length := by omega
      have hR' := one_set (v := .slice p' l.length c') hR
      have ho' : (wr.setCell ⟨w.heap.size + 1 + 1, 0, none⟩ (.slice p' l.length c')).ownsRow w.heap.size 39 4 (.slice p' l.length c') l.length (scells (l.set i (x1, x2, x3, x4))) := by
        rw [List.take_of_length_le (by simp)] at ho
        exact (own_block ho (fun g hg => Below.heap_setCell _ _ _ _ (by have := (ho.lt g hg).1; simp; omega))).mono (by omega)
      have hb' : Below w.heap.size w (wr.setCell ⟨w.heap.size + 1 + 1, 0, none⟩ (.slice p' l.length c')) := hbw.setCell (by simp; omega) _
      have HR : Hid (_ ∧ _ ∧ _) := ⟨hR', ho', hb'⟩
      clear hR' ho' hb' hT hS hR hO ho hbr hbw pa
      go_wp2
      exact bodyPost_ret (v := .agg #[.slice p' l.length c']) (results_c Try.results32 rfl (load_row (P := Try.prog) (cs := [.slice p' l.length c']) HR.out.1 Try.underlying24 rfl (by kernel_rfl))) rfl ⟨_, _, rfl, HR.out.2.1, HR.out.2.2⟩
end Go.Proofs.Ytilcjcbghpbkjaa.Walks
