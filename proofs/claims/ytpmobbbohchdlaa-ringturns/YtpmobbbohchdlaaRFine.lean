/-
  Walk, Remove and Check where all is well; laws of walks. Plain lists, and what can be read.
-/
import Derived.Test.YtpmobbbohchdlaaRinged
import Derived.Test.YtpmobbbohchdlaaWalk
import Derived.Test.YtpmobbbohchdlaaLRems
import Derived.WalkKit
import Derived.ProofKit
import Derived.Handy
import Derived.LoopTactic
import Derived.Below
import Derived.Laws.BitsAllLaws
import Derived.RegionTactic
import Derived.Deep.RegionHeld3
import Derived.Deep.DrawnRows
import Derived.Deep.AppendLies
import Derived.Laws.OwnMore
import Derived.Deep.Onto
import Derived.Deep.QuietTactic
import Derived.BigQuiet
namespace Go.Proofs.Ytpmobbbohchdlaa.Walks
open Go.RowKit
set_option linter.unusedVariables false
set_option linter.unusedSimpArgs false
attribute [local go_sem ↓] Go.wp_at_zero Go.wp_at_succ

theorem walk_fine (v : Value) (a : List Int) (key : Nat) (w : World) (ha : Wts a) (hv : TmAt w v (spotsOf a)) (hk : key < 4294967296) :
    Calls Try.prog 17 #[.agg #[v], .int .i64 (key : Int)] w fun r w' => ∃ p c, r = .returned (.tuple #[.slice p (walkAt (spotsOf a) (keyMix key : Nat)).length c, .int .i64 0]) ∧ w'.ownsRow w.heap.size 3 1 (.slice p (walkAt (spotsOf a) (keyMix key : Nat)).length c) (walkAt (spotsOf a) (keyMix key : Nat)).length (icells (walkAt (spotsOf a) (keyMix key : Nat))) ∧ Below w.heap.size w w' :=
  (walk_any v (spotsOf a) (key : Int) w hv).mono fun r w' h => by
    obtain ⟨y, e, rfl, hbl, h⟩ := h
    rw [Int.toNat_natCast] at h
    rcases h with ⟨h1, _⟩ | ⟨_, h2, _⟩ | ⟨_, _, rfl, ho⟩
    · exact absurd (ringOk_spots ha) h1
    · exact absurd ⟨by omega, by omega⟩ h2
    · obtain ⟨p, c, rfl⟩ := own_form ho
      exact ⟨p, c, rfl, ho, hbl⟩

theorem remove_fine (v : Value) (a : List Int) (b : Nat) (w : World) (ha : Wts a) (hv : TmAt w v (spotsOf a)) (hb : b < 12) (h0 : 0 < a.getD b 0) :
    Calls Try.prog 15 #[.agg #[v], .int .i64 (b : Int)] w fun r w' => ∃ p c, r = .returned (.tuple #[.agg #[.slice p (spotsOf (a.set b 0)).length c], .int .i64 0]) ∧ w'.ownsRow w.heap.size 55 2 (.slice p (spotsOf (a.set b 0)).length c) (spotsOf (a.set b 0)).length (tcells (spotsOf (a.set b 0))) ∧ Below w.heap.size w w' :=
  (remove_any v (spotsOf a) (b : Int) w hv).mono fun r w' h => by
    obtain ⟨y, e, rfl, hbl, h⟩ := h
    rw [wOf_spotsOf ha, Int.toNat_natCast] at h
    rcases h with ⟨h1, _⟩ | ⟨_, h2, _⟩ | ⟨_, _, rfl, ho⟩
    · exact absurd (ringOk_spots ha) h1
    · exact absurd ⟨⟨by omega, by omega⟩, h0⟩ h2
    · obtain ⟨p, c, rfl⟩ := own_form ho
      exact ⟨p, c, rfl, ho, hbl⟩

/-- A backend that is not there: none is taken away. -/
theorem remove_none (v : Value) (a : List Int) (b : Nat) (w : World) (ha : Wts a) (hv : TmAt w v (spotsOf a)) (h0 : ¬ 0 < a.getD b 0) :
    Calls Try.prog 15 #[.agg #[v], .int .i64 (b : Int)] w fun r w' => r = .returned (.tuple #[.agg #[.slice none 0 0], .int .i64 8]) ∧ Below w.heap.size w w' :=
  (remove_any v (spotsOf a) (b : Int) w hv).mono fun r w' h => by
    obtain ⟨y, e, rfl, hbl, h⟩ := h
    rw [wOf_spotsOf ha, Int.toNat_natCast] at h
    rcases h with ⟨h1, _⟩ | ⟨_, _, rfl, rfl⟩ | ⟨_, h2, _⟩
    · exact absurd (ringOk_spots ha) h1
    · exact ⟨rfl, hbl⟩
    · exact absurd h2.2 h0

theorem foldF_keep : ∀ (m : List Tm) (x : List Int) (i : Nat), i < x.length → (m.foldl stepF x)[i]? = x[i]?
  | [], _, _, _ => rfl
  | t :: m, x, i, hi => by
    have hlt : i < (stepF x t).length := by
      unfold stepF
      split
      · exact hi
      · rw [List.length_append]; omega
    rw [List.foldl_cons, foldF_keep m (stepF x t) i hlt]
    unfold stepF
    split
    · rfl
    · rw [List.getElem?_append_left hi]

theorem firsts_head (t : Tm) (m : List Tm) : (firsts (t :: m))[0]? = some t.2 := by
  unfold firsts
  rw [List.foldl_cons, foldF_keep m _ 0 (by simp [stepF])]
  simp [stepF]

/-- Who comes first of those from j on: that of the next spot, or of the first one of all. -/
def wantTo (m : List Tm) (at_ : Int) (j : Nat) : Int := (((m.drop j).find? fun t => decide (at_ ≤ t.1)).getD (m.headD (0, 0))).2

theorem wantTo_all (m : List Tm) (at_ : Int) : wantTo m at_ m.length = (m.headD (0, 0)).2 := by simp [wantTo]

theorem wantTo_yes (m : List Tm) (at_ : Int) (j : Nat) (hj : j < m.length) (h : at_ ≤ m[j].1) : wantTo m at_ j = m[j].2 := by
  unfold wantTo
  rw [drop_cons hj, List.find?_cons_of_pos (by simpa using h)]
  rfl

theorem wantTo_no (m : List Tm) (at_ : Int) (j : Nat) (hj : j < m.length) (h : ¬ at_ ≤ m[j].1) : wantTo m at_ j = wantTo m at_ (j + 1) := by
  unfold wantTo
  rw [drop_cons hj, List.find?_cons_of_neg (by simpa using h)]

theorem walk_first (m : List Tm) (at_ : Int) (h : m ≠ []) : (walkAt m at_)[0]? = some (wantTo m at_ 0) := by
  unfold walkAt turnAt wantTo
  rw [List.drop_zero]
  cases hf : m.filter (fun t => decide (at_ ≤ t.1)) with
  | cons t r =>
    rw [List.cons_append, firsts_head]
    have : m.find? (fun t => decide (at_ ≤ t.1)) = some t := by
      rw [← List.head?_filter, hf]
      rfl
    rw [this]
    rfl
  | nil =>
    have hn : m.find? (fun t => decide (at_ ≤ t.1)) = none := by
      rw [← List.head?_filter, hf]
      rfl
    have hall : m.filter (fun t => decide (t.1 < at_)) = m := List.filter_eq_self.2 fun t ht => by
      have := List.filter_eq_nil_iff.1 hf t ht
      simp at this ⊢
      omega
    rw [hn, hall, List.nil_append]
    cases m with
    | nil => exact absurd rfl h
    | cons t r => rw [firsts_head]; rfl

/-- Behind ringed: the ring's box, the weights' block. -/
theorem begun (w w1 : World) (a : List Int) (v : Value) (ha : Wts a) (hv : TmAt w1 v (spotsOf a)) (hb : Below w.heap.size w w1) :
    ∃ W2, W2 = ((w1.alloc (.cells #[v] 24)).alloc (.cells #[.int .i64 0, .int .i64 0, .int .i64 0, .int .i64 0, .int .i64 0, .int .i64 0, .int .i64 0, .int .i64 0, .int .i64 0, .int .i64 0, .int .i64 0, .int .i64 0] 40)).setCells (w1.heap.size + 1) 0 (icells a) ∧
      ((w1.alloc (.cells #[v] 24)).alloc (.cells #[.int .i64 0, .int .i64 0, .int .i64 0, .int .i64 0, .int .i64 0, .int .i64 0, .int .i64 0, .int .i64 0, .int .i64 0, .int .i64 0, .int .i64 0, .int .i64 0] 40)).there (w1.heap.size + 1) 0 (icells a).toArray.size ∧ (Try.prog.info? 40).map (·.size) = some (icells a).toArray.size ∧ ((icells a).toArray.all fun x => x.oneCell') = true ∧
      BoxR W2 w1.heap.size v (spotsOf a) ∧ Arr 40 12 W2 (w1.heap.size + 1) a ∧ Below w.heap.size w W2 := by
  have hsz : (icells a).toArray.size = 12 := by simp [icells_len, ha.len]
  have hA : Arr 40 12 ((w1.alloc (.cells #[v] 24)).alloc (.cells #[.int .i64 0, .int .i64 0, .int .i64 0, .int .i64 0, .int .i64 0, .int .i64 0, .int .i64 0, .int .i64 0, .int .i64 0, .int .i64 0, .int .i64 0, .int .i64 0] 40)) (w1.heap.size + 1) (List.replicate 12 0) := by
    rw [zeros12]
    exact ⟨heap_second _ _ _, by simp⟩
  have hb1 : Below w1.heap.size w1 (w1.alloc (.cells #[v] 24)) := below_new _ _
  have hb2 := below_new (w1.alloc (.cells #[v] 24)) (.cells #[.int .i64 0, .int .i64 0, .int .i64 0, .int .i64 0, .int .i64 0, .int .i64 0, .int .i64 0, .int .i64 0, .int .i64 0, .int .i64 0, .int .i64 0, .int .i64 0] 40)
  have hR := (BoxR.new hv).below hb2
  have hw : Below w.heap.size w ((w1.alloc (.cells #[v] 24)).alloc (.cells #[.int .i64 0, .int .i64 0, .int .i64 0, .int .i64 0, .int .i64 0, .int .i64 0, .int .i64 0, .int .i64 0, .int .i64 0, .int .i64 0, .int .i64 0, .int .i64 0] 40)) := (hb.trans (hb1.mono hb.size)).alloc (by have := hb.size; simp; omega) _
  have hs := hb.size
  obtain ⟨W2, hW2⟩ : ∃ W2, W2 = ((w1.alloc (.cells #[v] 24)).alloc (.cells #[.int .i64 0, .int .i64 0, .int .i64 0, .int .i64 0, .int .i64 0, .int .i64 0, .int .i64 0, .int .i64 0, .int .i64 0, .int .i64 0, .int .i64 0, .int .i64 0] 40)).setCells (w1.heap.size + 1) 0 (icells a) := ⟨_, rfl⟩
  have hA2 := (hA.store (P := Try.prog) (b := a) ha.len info12).2
  have hw2 := below_setCells hw (g := w1.heap.size + 1) (by omega) 0 (icells a) hw.size
  refine ⟨W2, hW2, by rw [hsz]; exact hA.there, by rw [info12, hsz], all_oneCell_toArray (icells_one a), ⟨?_, ?_⟩, by rw [hW2]; exact hA2, by rw [hW2]; exact hw2⟩
  · rw [hW2, World.heap_setCells_other _ _ _ _ hR.lt (by omega)]
    exact hR.1
  · have hbb : Below w1.heap.size w1 W2 := by
      rw [hW2]
      exact below_setCells (hb1.alloc (by simp) _) (g := w1.heap.size + 1) (by omega) 0 (icells a) (by simp; omega)
    exact hv.below hbb
end Go.Proofs.Ytpmobbbohchdlaa.Walks
