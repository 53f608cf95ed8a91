/-
  Check of requests; Check of a book. Condition: what is read can be read.
-/
import Derived.Test.YtlpedligkofegaaChk2
import Derived.WalkKit
import Derived.ProofKit
import Derived.Handy
import Derived.LoopTactic
import Derived.Below
import Derived.Laws.BitsAllLaws
import Derived.RegionTactic
import Derived.Deep.RegionHeld3
import Derived.Deep.DrawnRows
import Derived.Deep.AppendLies
import Derived.Laws.OwnMore
import Derived.Deep.Onto
import Derived.Deep.QuietTactic
import Derived.BigQuiet
namespace Go.Proofs.Ytlpedligkofegaa.Walks
open Go.RowKit
set_option linter.unusedVariables false
set_option linter.unusedSimpArgs false
attribute [local go_sem ↓] Go.wp_at_zero Go.wp_at_succ
open Go.Sort (grow grow_empty grow_grow alloc_eq_grow cell?_grow heap_grow_old)
open Go.Maps (Keyed int_keyed keyOf_int_mk)

set_option maxHeartbeats 2000000 in
theorem requestMayBe_any (x1 x2 x3 x4 x5 : Int) (w : World) : Calls Try.prog 30 #[rqV x1 x2 x3 x4 x5] w fun r w' => r = .returned (.bool (decide (RqOk (x1, x2, x3, x4, x5)))) ∧ w' = w.alloc (rqO x1 x2 x3 x4 x5) := by
  obtain ⟨ans, hans⟩ : ∃ ans, ans = decide (RqOk (x1, x2, x3, x4, x5)) := ⟨_, rfl⟩
  rw [← hans]
  have H : Hid _ := hans
  clear hans
  cases h1 : decide (0 ≤ x1 ∧ x1 ≤ 1048576)
  case false =>
    have E : Hid (ans = false) := by rw [H.out]; exact decide_eq_false fun h => of_decide_eq_false h1 h.1
    go_enter Try.func30, Try.ntmps30
    go_wp2_with fail
    refine (within_any _ _ _ _).mono ?_
    rw [h1]
    rintro r w1 ⟨rfl, rfl⟩
    go_wp2
    go_ret
    exact ⟨by rw [E.out]; rfl, rfl⟩
  by_cases h2 : x2 = 1
  · subst h2
    have E : Hid (ans = true) := by rw [H.out]; exact decide_eq_true ⟨of_decide_eq_true h1, .inl rfl⟩
    go_enter Try.func30, Try.ntmps30
    go_wp2_with fail
    refine (within_any _ _ _ _).mono ?_
    rw [h1]
    rintro r w1 ⟨rfl, rfl⟩
    go_wp2
    go_ret
    exact ⟨by rw [E.out]; rfl, rfl⟩
  · have e2 : (x2 == 1) = false := by simpa using h2
    obtain ⟨b, hb⟩ : ∃ b, b = (x2 == 2) := ⟨_, rfl⟩
    have E : Hid (ans = (x2 == 2)) := by
      rw [H.out]
      cases hq : (x2 == 2)
      · exact decide_eq_false fun h => h.2.elim h2 fun h => by rw [show x2 = 2 from h] at hq; cases hq
      · exact decide_eq_true ⟨of_decide_eq_true h1, .inr (by simpa using hq)⟩
    go_enter Try.func30, Try.ntmps30
    go_wp2_with fail
    refine (within_any _ _ _ _).mono ?_
    rw [h1]
    rintro r w1 ⟨rfl, rfl⟩
    go_wp2
    go_ret
    exact ⟨by rw [E.out]; rfl, rfl⟩

theorem wf_mid {x : Int} (h1 : 0 ≤ x) (h2 : x ≤ 10000000) : (Lit.int .i64 x).wf = true := by
  have e1 : IntKind.i64.min = -9223372036854775808 := by decide
  have e2 : IntKind.i64.max = 9223372036854775807 := by decide
  simp only [Lit.wf, e1, e2, Bool.and_eq_true, decide_eq_true_eq]
  omega

theorem zero3 (W : World) : (zeroValue 3).run Try.prog W = .ok (.int .i64 0) W := by kernel_rfl

theorem law3 : Keyed Try.prog 3 := int_keyed Try.underlying3

/-- A map of places: which Ids are in it, how many. -/
def MpAt (w : World) (b : Nat) (ids : List Int) : Prop :=
  ∃ (n : Nat) (D : DataW Unit), w.ownsMap Try.prog 3 (plainElem Try.prog 3) b n D ∧ n ≤ ids.length ∧ (∀ id, (Lit.int .i64 id).wf = true → Maps.has D (.int .i64 id) = decide (id ∈ ids)) ∧ Maps.size D ≤ ids.length ∧ (Maps.size D = ids.length ↔ ids.Pairwise (· ≠ ·))

theorem mpAt_new (w : World) : MpAt (w.alloc (.map #[] 0)) w.heap.size [] :=
  ⟨0, .map [], World.ownsMap_made w _ _ _, Nat.le_refl _, fun id hid => rfl, Nat.le_refl _, ⟨fun _ => .nil, fun _ => rfl⟩⟩

theorem MpAt.keep {w w' : World} {b : Nat} {ids : List Int} (h : MpAt w b ids) (hb : w'.heap[b]? = w.heap[b]?) : MpAt w' b ids := by
  obtain ⟨n, D, ⟨es, clock, h1, h2⟩, h3⟩ := h
  exact ⟨n, D, ⟨es, clock, hb.trans h1, h2⟩, h3⟩

theorem MpAt.lt {w : World} {b : Nat} {ids : List Int} (h : MpAt w b ids) : b < w.heap.size := by
  obtain ⟨n, D, ⟨es, clock, h1, h2⟩, h3⟩ := h
  exact (Array.getElem?_eq_some_iff.1 h1).1

theorem MpAt.put {w : World} {b : Nat} {ids : List Int} (h : MpAt w b ids) (hn : ids.length ≤ 1000) {id x : Int} (hid : (Lit.int .i64 id).wf = true) (hx : (Lit.int .i64 x).wf = true) :
    ∃ w', (Instr.mapUpdate 78 (.map (some b)) (.int .i64 id) (.int .i64 x)).run Try.prog w = .ok () w' ∧ MpAt w' b (ids ++ [id]) ∧ w.grownBy w' (some b) := by
  obtain ⟨n, D, hown, hnl, hf, hs, hp⟩ := h
  obtain ⟨w', hr, ho, hg⟩ := hown.update law3 Try.underlying78 (by unfold maxLen; omega) (Go.Maps.keyOf_int_mk Try.underlying3 hid) (plainElem_int Try.underlying3 hx)
  have hm : Maps.IsMap D := hown.isMap
  have hsz := Maps.size_put (k := .int .i64 id) (hown.tidy law3) (d := .lit (.int .i64 x))
  rw [hf id hid] at hsz
  refine ⟨w', hr, ⟨n + 1, _, ho, by simp; omega, fun k hk => ?_, ?_, ?_⟩, hg⟩
  · by_cases e : k = id
    · subst e
      rw [Maps.has_put_same (k := .int .i64 k) hm trivial]
      simp
    · have hne : Lit.int .i64 k ≠ Lit.int .i64 id := fun h => e (by cases h; rfl)
      rw [Maps.has_put_other hne, hf k hk]
      simp [e]
  · rw [hsz]
    simp
    split <;> omega
  · rw [hsz, List.pairwise_append, ← hp]
    by_cases hm : id ∈ ids
    · simp only [hm, decide_true, if_true, List.length_append, List.length_singleton]
      constructor
      · intro h; omega
      · rintro ⟨_, _, h⟩; exact absurd rfl (h id hm id (by simp))
    · simp only [hm, decide_false, List.length_append, List.length_singleton]
      constructor
      · intro h
        refine ⟨by simpa using h, by simp, fun a ha b hb => ?_⟩
        simp at hb
        subst hb
        exact fun e => hm (e ▸ ha)
      · rintro ⟨h, _, _⟩
        simp [h]

theorem MpAt.len {w : World} {b : Nat} {ids : List Int} (h : MpAt w b ids) : ∃ (n : Nat) (D : DataW Unit) (s : Nat), w.ownsMap Try.prog 3 (plainElem Try.prog 3) b n D ∧ Maps.size D = s ∧ s ≤ ids.length ∧ (s = ids.length ↔ ids.Pairwise (· ≠ ·)) := by
  obtain ⟨n, D, h1, _, _, h4, h5⟩ := h
  exact ⟨n, D, _, h1, rfl, h4, h5⟩

theorem ids_pair (R : List Rq) : (R.map (·.1)).Pairwise (· ≠ ·) ↔ R.Pairwise (fun a b => a.1 ≠ b.1) := List.pairwise_map

set_option maxHeartbeats 4000000 in
set_option maxRecDepth 100000 in
theorem requestsMayBe_any (v : Value) (R : List Rq) (w : World) (hv : RsAt w v R) (hR : R.length ≤ 100) :
    Calls Try.prog 40 #[v] w fun r w' => r = .returned (.bool (decide (RsOk R))) ∧ Below w.heap.size w w' := by
  obtain ⟨a, ca, rfl, hca, hma, pa⟩ := hv.parts
  unfold maxLen at hma
  obtain ⟨ans, hans⟩ : ∃ ans, ans = decide (RsOk R) := ⟨_, rfl⟩
  rw [← hans]
  have H : Hid _ := hans
  clear hv hans
  have hmm : ∀ W : World, (Instr.makeMap 78 none).run Try.prog W = .ok (.map (some W.heap.size)) (W.alloc (.map #[] 0)) := fun _ => rfl
  have HM : Hid _ := mpAt_new w
  go_enter Try.func40, Try.ntmps40
  go_wp2
  go_loopw [9] (fun i wr => ∃ k : Nat, i = .int .i64 k ∧ k ≤ R.length ∧ (∀ r ∈ R.take k, RqOk r) ∧ MpAt wr w.heap.size ((R.take k).map (·.1)) ∧ Below w.heap.size w wr) (fun i _ => R.length - (intOf i).toNat)
  case atStart => exact ⟨0, rfl, Nat.zero_le _, by simp, HM.out, below_new _⟩
  case round =>
    obtain ⟨k, rfl, hk, hall, hM, hbr⟩ := hrel
    clear hmm
    by_cases hlt : k < R.length
    · obtain ⟨b1, o1, rfl, hb1, c1, c2, c3, c4, c5⟩ := pa k hlt
      have e1 := (hbr.cell (p := ⟨b1, o1 + k * 5, none⟩) hb1).trans c1
      have e2 := (hbr.cell (p := ⟨b1, o1 + k * 5 + 1, none⟩) hb1).trans c2
      have e3 := (hbr.cell (p := ⟨b1, o1 + k * 5 + 2, none⟩) hb1).trans c3
      have e4 := (hbr.cell (p := ⟨b1, o1 + k * 5 + 3, none⟩) hb1).trans c4
      have e5 := (hbr.cell (p := ⟨b1, o1 + k * 5 + 4, none⟩) hb1).trans c5
      have hkI : (k : Int) < (R.length : Int) := by omega
      have htk : R.take (k + 1) = R.take k ++ [R[k]] := List.take_succ_eq_append_getElem hlt
      have hmem : R[k] ∈ R := List.getElem_mem hlt
      obtain ⟨x, hxk⟩ : ∃ x, x = R[k] := ⟨_, rfl⟩
      rw [← hxk] at e1 e2 e3 e4 e5 htk hmem
      clear hxk
      obtain ⟨x1, x2, x3, x4, x5⟩ := x
      obtain ⟨W0, hW0⟩ : ∃ W0, W0 = (wr.alloc (rqO x1 x2 x3 x4 x5)).alloc (rqO x1 x2 x3 x4 x5) := ⟨_, rfl⟩
      have hB0 : Below wr.heap.size wr W0 := by rw [hW0]; exact ((Below.refl _ _).alloc (Nat.le_refl _) _).alloc (by simp) _
      have hR0 : W0.heap[wr.heap.size]? = some (rqO x1 x2 x3 x4 x5) := by rw [hW0]; exact heap_old _ _ (heap_alloc_new _ _)
      have hM0 := hM.keep (hB0.block _ hM.lt)
      obtain ⟨bd, hbd⟩ : ∃ bd, bd = decide (RqOk (x1, x2, x3, x4, x5)) := ⟨_, rfl⟩
      have HR : Hid (_ ∧ _ ∧ _ ∧ _ ∧ _ ∧ _ ∧ _ ∧ _) := ⟨htk, hall, hM0, hbr, hmem, hbd, hW0, hB0⟩
      clear hall hbr c1 c2 c3 c4 c5 hb1 pa htk hM hM0 hmem hbd hB0
      cases bd
      case false =>
        have E : Hid (ans = false) := by rw [H.out]; exact decide_eq_false fun h => of_decide_eq_false HR.out.2.2.2.2.2.1.symm (h.1 _ HR.out.2.2.2.2.1)
        clear hR0 hW0
        go_wp2_with fail
        refine (requestMayBe_any _ _ _ _ _ _).mono ?_
        rw [← HR.out.2.2.2.2.2.1]
        rintro r w1 ⟨rfl, rfl⟩
        go_wp2
        go_ret
        exact ⟨by rw [E.out]; rfl, by rw [← HR.out.2.2.2.2.2.2.1]; exact HR.out.2.2.2.1.trans (HR.out.2.2.2.2.2.2.2.mono HR.out.2.2.2.1.size)⟩
      have hok : RqOk (x1, x2, x3, x4, x5) := of_decide_eq_true HR.out.2.2.2.2.2.1.symm
      obtain ⟨w2, hup, hM2, hg2⟩ := HR.out.2.2.1.put (id := x1) (x := k) (by simp; omega) (wf_mid (by have := hok.1; omega) (by have := hok.1; omega)) (wf_mid (by omega) (by omega))
      have HN : Hid (_ ∧ _ ∧ _) := ⟨hok, hM2, hg2⟩
      obtain ⟨d0, d1, d2, d3, d4, hlt0⟩ := five_cells hR0
      clear hok hM2 hg2 hR0
      go_wp2_with fail
      refine (requestMayBe_any _ _ _ _ _ _).mono ?_
      rw [← HR.out.2.2.2.2.2.1]
      rintro r w1 ⟨rfl, rfl⟩
      rw [← hW0]
      clear hW0
      go_wp2
      go_roundw
      case rel =>
        refine ⟨k + 1, by simp, hlt, fun r hr => ?_, ?_, ?_⟩
        · rw [HR.out.1] at hr
          rcases List.mem_append.1 hr with hr | hr
          · exact HR.out.2.1 r hr
          · simp at hr
            rw [hr]
            exact HN.out.1
        · rw [HR.out.1, List.map_append]
          exact HN.out.2.1
        · have hz := (HR.out.2.2.2.1.trans (HR.out.2.2.2.2.2.2.2.mono HR.out.2.2.2.1.size))
          exact hz.grown HN.out.2.2 hz.size (fun j e => by cases e; exact Nat.le_refl _)
      case measure => simp [intOf]; omega
    · obtain rfl : k = R.length := by omega
      rw [List.take_length] at hM hall
      obtain ⟨n, D, s, hown, hs, hsl, hiff⟩ := hM.len
      rw [ids_pair, List.length_map] at hiff
      have HB : Hid (_ ∧ _) := ⟨hown, hbr⟩
      have hE : ans = decide (s = R.length) := by
        rw [H.out]
        exact decide_eq_decide.2 ⟨fun h => hiff.2 h.2, fun h => ⟨hall, hiff.1 h⟩⟩
      clear hall hbr pa hown hM hiff hsl
      by_cases hq : s = R.length
      · have E : Hid (ans = true) := by rw [hE]; exact decide_eq_true hq
        clear hE
        rw [hq] at hs
        clear hq
        go_wp2_with (at_len; refine wpList_len_own _ rfl _ 78 rfl 3 3 Try.underlying78 _ w.heap.size n D rfl HB.out.1 ?_; rw [hs])
        go_wp2
        go_ret
        exact ⟨by rw [E.out]; rfl, HB.out.2⟩
      · have E : Hid (ans = false) := by rw [hE]; exact decide_eq_false hq
        have hq1 : (s == R.length) = false := by simpa using hq
        have hq2 : ((s : Int) == (R.length : Int)) = false := by simp; omega
        clear hE
        go_wp2_with (at_len; refine wpList_len_own _ rfl _ 78 rfl 3 3 Try.underlying78 _ w.heap.size n D rfl HB.out.1 ?_; rw [hs])
        go_wp2
        go_ret
        exact ⟨by rw [E.out]; rfl, HB.out.2⟩
end Go.Proofs.Ytlpedligkofegaa.Walks
