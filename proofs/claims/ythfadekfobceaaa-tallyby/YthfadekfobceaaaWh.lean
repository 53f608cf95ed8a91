/-
  Where flows are: a map of their handles, and what it holds. Condition: what is read can be read.
-/
import Derived.Test.YthfadekfobceaaaSto
import Derived.Maps.Own
import Derived.Maps.OwnOps
import Derived.Maps.OwnSet
import Derived.Maps.RangeWalk
import Derived.WalkKit
import Derived.ProofKit
import Derived.Handy
import Derived.LoopTactic
import Derived.Below
import Derived.Laws.BitsAllLaws
import Derived.RegionTactic
import Derived.Deep.RegionHeld3
import Derived.Deep.DrawnRows
import Derived.Deep.AppendLies
import Derived.Laws.OwnMore
import Derived.Deep.Onto
import Derived.Deep.QuietTactic
import Derived.BigQuiet
namespace Go.Proofs.Ythfadekfobceaaa.Walks
open Go.RowKit
set_option linter.unusedVariables false
set_option linter.unusedSimpArgs false
attribute [local go_sem ↓] Go.wp_at_zero Go.wp_at_succ
open Go.Maps (has Keyed IsMap)
open Go.Sort (grow grow_empty grow_grow alloc_eq_grow cell?_grow heap_grow_old)

abbrev hdV (s g : Int) : Value := .agg #[.int .i64 s, .int .i64 g]

theorem laidOutT : laidOutB Try.prog = true := by kernel_rfl

theorem wideH : (match Try.prog.underlying 36 with | some (.array _ _) | some (.struct _) => true | _ => false) = true := by rw [Try.underlying36]

theorem klaw : Keyed Try.prog 36 := Keyed.of_law (deep_law_laid laidOutT (m := 2) (by omega) (of_decide_eq_true (by kernel_rfl)) (by kernel_rfl) wideH)

/-- What a handle reads as, as a key. -/
def klOf (P : Program) (t : TypeId) (s g : Int) : Lit := (keyOf P t (hdV s g)).getD (.bool false)

theorem kl_is {s g : Int} (hs : (Lit.int .i64 s).wf = true) (hg : (Lit.int .i64 g).wf = true) : keyOf Try.prog 36 (hdV s g) = some (klOf Try.prog 36 s g) := by
  have h1 : Try.prog.keyType 36 = true := by kernel_rfl
  have h2 : (hdV s g).formed Try.prog 36 = true := by
    have hc : Try.prog.cellsOf 36 = 2 := by kernel_rfl
    simp [Value.formed, Try.underlying36, hc]
  obtain ⟨n, hn⟩ : ∃ n, Try.prog.types.size + 1 = n + 2 := ⟨Try.prog.types.size - 1, by have : 1 ≤ Try.prog.types.size := of_decide_eq_true (by kernel_rfl); omega⟩
  have h3 : ∃ ls, Try.prog.keyLits (n + 2) 36 (hdV s g).cells.toList = some ls := by
    have hc : Try.prog.cellsOf 36 = 2 := by kernel_rfl
    have hc3 : Try.prog.cellsOf 3 = 1 := by kernel_rfl
    refine ⟨[.int .i64 s, .int .i64 g], ?_⟩
    unfold Program.keyLits
    rw [Try.underlying36]
    simp [Value.cells, hc, hc3, Program.keyLits, Try.underlying3, hs, hg]
  obtain ⟨ls, h3⟩ := h3
  have h4 : keyOf Try.prog 36 (hdV s g) = some (.string (keyBytes ls)) := by
    unfold keyOf
    rw [Try.underlying36]
    simp only [h1, h2, Bool.and_self, if_true]
    rw [hn, h3]
    rfl
  unfold klOf
  rw [h4]
  rfl

theorem kl_inj {s g s' g' : Int} (hs : (Lit.int .i64 s).wf = true) (hg : (Lit.int .i64 g).wf = true) (hs' : (Lit.int .i64 s').wf = true) (hg' : (Lit.int .i64 g').wf = true) (h : klOf Try.prog 36 s g = klOf Try.prog 36 s' g') : s = s' ∧ g = g' := by
  have h1 := kl_is hs hg
  have h2 := kl_is hs' hg'
  rw [h] at h1
  have := klaw.inj h1 h2
  simpa using this

section
variable {H : Type}

/-- A map that holds, for each of these flows, where it is. -/
structure MapIs (D : DataW H) (M : List Ou) : Prop where
  map : IsMap D
  wf : ∀ o ∈ M, OuWf o
  apart : M.Pairwise fun p q => ¬ (p.slot = q.slot ∧ p.gen = q.gen)
  keys : ∀ q, has D q = true ↔ ∃ o ∈ M, q = klOf Try.prog 36 o.slot o.gen
  vals : ∀ o ∈ M, ∀ z, D.atKey (klOf Try.prog 36 o.slot o.gen) z = .lit (.int .i64 o.be)

theorem MapIs.none : MapIs (.map [] : DataW H) [] where
  map := Go.Maps.isMap_empty
  wf := by simp
  apart := List.Pairwise.nil
  keys := by intro q; simp [has]
  vals := by simp

theorem MapIs.key_wf {D : DataW H} {M : List Ou} (h : MapIs D M) {o : Ou} (ho : o ∈ M) : (Lit.int .i64 o.slot).wf = true ∧ (Lit.int .i64 o.gen).wf = true := ⟨h.wf o ho _ (by simp), h.wf o ho _ (by simp)⟩

theorem fits_iff {o p : Ou} : fits o p = true ↔ p.slot = o.slot ∧ p.gen = o.gen := by simp [fits]

theorem MapIs.del {D : DataW H} {M : List Ou} (h : MapIs D M) (o : Ou) (hs : (Lit.int .i64 o.slot).wf = true) (hg : (Lit.int .i64 o.gen).wf = true) : MapIs (D.del (klOf Try.prog 36 o.slot o.gen)) (M.filter fun p => !fits o p) where
  map := h.map.del _
  wf := fun p hp => h.wf p (List.mem_filter.1 hp).1
  apart := h.apart.filter _
  keys := by
    intro q
    by_cases e : q = klOf Try.prog 36 o.slot o.gen
    · subst e
      rw [Go.Maps.has_del_same]
      constructor
      · intro h; cases h
      · rintro ⟨p, hp, e⟩
        obtain ⟨hp, hf⟩ := List.mem_filter.1 hp
        have hw := h.key_wf hp
        have := kl_inj hs hg hw.1 hw.2 e
        have hf2 : fits o p = true := fits_iff.2 ⟨this.1.symm, this.2.symm⟩
        rw [hf2] at hf
        cases hf
    · rw [Go.Maps.has_del_other e, h.keys q]
      constructor
      · rintro ⟨p, hp, rfl⟩
        refine ⟨p, List.mem_filter.2 ⟨hp, ?_⟩, rfl⟩
        cases hf : fits o p
        · rfl
        · have := fits_iff.1 hf
          exact absurd (by rw [this.1, this.2]) e
      · rintro ⟨p, hp, rfl⟩
        exact ⟨p, (List.mem_filter.1 hp).1, rfl⟩
  vals := by
    intro p hp z
    obtain ⟨hp, hf⟩ := List.mem_filter.1 hp
    have hw := h.key_wf hp
    rw [Go.Maps.atKey_del_other]
    · exact h.vals p hp z
    · intro e
      have := kl_inj hw.1 hw.2 hs hg e
      have hf2 : fits o p = true := fits_iff.2 this
      rw [hf2] at hf
      cases hf

theorem MapIs.put {D : DataW H} {M : List Ou} (h : MapIs D M) (o : Ou) (ho : OuWf o) : MapIs (D.put (klOf Try.prog 36 o.slot o.gen) (.lit (.int .i64 o.be))) ((M.filter fun p => !fits o p) ++ [o]) := by
  have hs : (Lit.int .i64 o.slot).wf = true := ho _ (by simp)
  have hg : (Lit.int .i64 o.gen).wf = true := ho _ (by simp)
  have hk := klaw.key (kl_is hs hg)
  have d := h.del o hs hg
  refine ⟨h.map.put _ _, ?_, ?_, ?_, ?_⟩
  · intro p hp
    rcases List.mem_append.1 hp with hp | hp
    · exact d.wf p hp
    · rw [List.mem_singleton] at hp; subst hp; exact ho
  · refine List.pairwise_append.2 ⟨d.apart, List.pairwise_singleton _ _, fun p hp q hq e => ?_⟩
    rw [List.mem_singleton] at hq
    subst hq
    have hf := (List.mem_filter.1 hp).2
    rw [fits_iff.2 e] at hf
    cases hf
  · intro q
    by_cases e : q = klOf Try.prog 36 o.slot o.gen
    · subst e
      rw [Go.Maps.has_put_same h.map hk]
      exact ⟨fun _ => ⟨o, by simp, rfl⟩, fun _ => rfl⟩
    · rw [Go.Maps.has_put_other e, ← Go.Maps.has_del_other e, d.keys q]
      constructor
      · rintro ⟨p, hp, rfl⟩
        exact ⟨p, List.mem_append_left _ hp, rfl⟩
      · rintro ⟨p, hp, rfl⟩
        rcases List.mem_append.1 hp with hp | hp
        · exact ⟨p, hp, rfl⟩
        · rw [List.mem_singleton] at hp; subst hp; exact absurd rfl e
  · intro p hp z
    rcases List.mem_append.1 hp with hp | hp
    · have hw := d.key_wf hp
      have hf := (List.mem_filter.1 hp).2
      rw [Go.Maps.atKey_put_other]
      · exact h.vals p (List.mem_filter.1 hp).1 z
      · intro e
        have := kl_inj hw.1 hw.2 hs hg e
        rw [fits_iff.2 this] at hf
        cases hf
    · rw [List.mem_singleton] at hp
      subst hp
      rw [Go.Maps.atKey_put_same h.map hk]
end

theorem zero3 (w : World) : (zeroValue 3).run Try.prog w = .ok (.int .i64 0) w := by kernel_rfl

set_option maxHeartbeats 8000000 in
set_option maxRecDepth 100000 in
theorem where_any {H : Type} (v : Value) (l : List Ou) (w : World) (hv : OsAt w v l) (hwf : ∀ o ∈ l, OuWf o) :
    Calls Try.prog 31 #[v] w fun r w' => ∃ (n : Nat) (D : DataW H), r = .returned (.map (some w.heap.size)) ∧ w'.ownsMap Try.prog 36 (plainElem Try.prog 3) w.heap.size n D ∧ MapIs D (lasts l) ∧ Below w.heap.size w w' := by
  obtain ⟨p, c, rfl, hc, hm, pv⟩ := OsAt.parts hv
  unfold maxLen at hm
  have HV : Hid (_ ∧ _) := ⟨pv, hwf⟩
  clear hv pv hwf
  have hmm := @run_makeMap Try.prog
  go_enter Try.func31, Try.ntmps31
  go_wp2
  go_loopw [9] (fun i wr => ∃ (k n : Nat) (D : DataW H), i = .int .i64 k ∧ k ≤ l.length ∧ n ≤ k ∧ wr.ownsMap Try.prog 36 (plainElem Try.prog 3) w.heap.size n D ∧ MapIs D (lasts (l.take k)) ∧ Below w.heap.size w wr) (fun i _ => l.length - (intOf i).toNat)
  case atStart => exact ⟨0, 0, .map [], rfl, Nat.zero_le _, Nat.le_refl _, World.ownsMap_made _ _ _ _, MapIs.none, below_new w⟩
  case round =>
    obtain ⟨k, n, D, rfl, hk, hn, ho, hM, hb⟩ := hrel
    clear hmm
    by_cases hlt : k < l.length
    · obtain ⟨b0, off, rfl, hb0', c1, c2, c3, c4, c5, c6, c7⟩ := HV.out.1 k hlt
      have e1 := (hb.cell (p := ⟨b0, off + k * 7, none⟩) hb0').trans c1
      have e2 := (hb.cell (p := ⟨b0, off + k * 7 + 1, none⟩) hb0').trans c2
      have e3 := (hb.cell (p := ⟨b0, off + k * 7 + 2, none⟩) hb0').trans c3
      have e4 := (hb.cell (p := ⟨b0, off + k * 7 + 3, none⟩) hb0').trans c4
      have e5 := (hb.cell (p := ⟨b0, off + k * 7 + 4, none⟩) hb0').trans c5
      have e6 := (hb.cell (p := ⟨b0, off + k * 7 + 5, none⟩) hb0').trans c6
      have e7 := (hb.cell (p := ⟨b0, off + k * 7 + 6, none⟩) hb0').trans c7
      have hxw := HV.out.2 _ (List.getElem_mem hlt)
      obtain ⟨⟨kd, sl, gn, be, rq, cd, wy⟩, hx⟩ : ∃ x, x = l[k] := ⟨_, rfl⟩
      have htk := take_snoc hlt hx
      rw [← hx] at e1 e2 e3 e4 e5 e6 e7 hxw
      dsimp only at e1 e2 e3 e4 e5 e6 e7
      have hltI : (k : Int) < (l.length : Int) := by omega
      obtain ⟨W1, hW1⟩ : ∃ W1, W1 = wr.alloc (ouO ⟨kd, sl, gn, be, rq, cd, wy⟩) := ⟨_, rfl⟩
      have hbn : Below wr.heap.size wr W1 := by rw [hW1]; exact below_new wr
      have hX : W1.heap[wr.heap.size]? = some (ouO ⟨kd, sl, gn, be, rq, cd, wy⟩) := by rw [hW1]; exact heap_alloc_new _ _
      have hb1 := hb.trans (hbn.mono hb.size)
      have ho1 : W1.ownsMap Try.prog 36 (plainElem Try.prog 3) w.heap.size n D := by rw [hW1]; exact ho.alloc _
      have hs : (Lit.int .i64 sl).wf = true := hxw _ (by simp)
      have hg : (Lit.int .i64 gn).wf = true := hxw _ (by simp)
      have hbe : (Lit.int .i64 be).wf = true := hxw _ (by simp)
      have hkey := kl_is hs hg
      have HR : Hid (_ ∧ _ ∧ _ ∧ _ ∧ _ ∧ _ ∧ _ ∧ _) := ⟨hb1, ho1, hM, hX, hW1, htk, hxw, hkey⟩
      clear hb ho hM hX htk hxw hkey hW1 c1 c2 c3 c4 c5 c6 c7 hb0' hx hbn hb1 ho1
      obtain ⟨k0, k1, k2, k3, k4, k5, k6, klt⟩ := ou_cells HR.out.2.2.2.1
      by_cases hu : kd = 1 ∨ kd = 5
      · have hus : isUp ⟨kd, sl, gn, be, rq, cd, wy⟩ = true := by simp [isUp]; exact hu
        have hst := lasts_snoc_up ⟨kd, sl, gn, be, rq, cd, wy⟩ hus (l.take k)
        rw [← HR.out.2.2.2.2.2.1] at hst
        have HH : Hid (∀ W, Below W1.heap.size W1 W → Calls Try.prog 28 #[ouA ⟨kd, sl, gn, be, rq, cd, wy⟩] W fun r w' => ∃ w5, r = .returned (hdV sl gn) ∧ w'.cell? ⟨wr.heap.size, 3, none⟩ = some (.int .i64 be) ∧ (Instr.mapUpdate 56 (.map (some w.heap.size)) (hdV sl gn) (.int .i64 be)).run Try.prog w' = .ok () w5 ∧ Hid (w5.ownsMap Try.prog 36 (plainElem Try.prog 3) w.heap.size (n + 1) (D.put (klOf Try.prog 36 sl gn) (.lit (.int .i64 be))) ∧ Below w.heap.size w w5)) := fun W hW => by
          refine (handleOf_any ⟨kd, sl, gn, be, rq, cd, wy⟩ W).mono ?_
          rintro r w' ⟨rfl, q, os, rfl⟩
          have hb2 := hW.trans ((below_grow W q os).mono hW.size)
          have ho2 : (grow (W.drewN q) os).ownsMap Try.prog 36 (plainElem Try.prog 3) w.heap.size n D := by
            obtain ⟨es, clock, h1, h2⟩ := HR.out.2.1
            exact ⟨es, clock, box_below h1 hb2, h2⟩
          obtain ⟨w5, hr, ho5, hg5⟩ := ho2.update klaw Try.underlying56 (by unfold maxLen; omega) HR.out.2.2.2.2.2.2.2 (plainElem_int Try.underlying3 hbe)
          have hbb := HR.out.1.trans (hb2.mono HR.out.1.size)
          exact ⟨w5, rfl, (hb2.cell (p := ⟨wr.heap.size, 3, none⟩) klt).trans k3, hr, ho5, hbb.grown hg5 hbb.size (fun j hj => by cases hj; exact Nat.le_refl _)⟩
        have HS : Hid _ := hst
        clear hus hst
        rcases hu with rfl | rfl
        all_goals
          go_wp2
          rw [← HR.out.2.2.2.2.1]
          go_region_with (first | (go_at_call 28; refine (HH.out _ ?hbW).mono ?_; (case hbW => first | exact (Below.refl _ _).drew | exact Below.refl _ _); rintro r w4 ⟨w5, rfl, k3', hr5, h5⟩))
          all_goals
            clear k3' hr5
            go_wp2
            go_roundw
            case rel =>
              refine ⟨k + 1, n + 1, _, by simp, hlt, by omega, h5.out.1, ?_, h5.out.2⟩
              rw [HS.out]
              exact HR.out.2.2.1.put (⟨_, sl, gn, be, rq, cd, wy⟩ : Ou) HR.out.2.2.2.2.2.2.1
            case measure => simp [intOf]; omega
      · by_cases hd : kd = 6 ∨ kd = 7
        · have hus : isUp ⟨kd, sl, gn, be, rq, cd, wy⟩ = false := by simp [isUp]; omega
          have hds : isDown ⟨kd, sl, gn, be, rq, cd, wy⟩ = true := by simp [isDown]; exact hd
          have hst := lasts_snoc_down ⟨kd, sl, gn, be, rq, cd, wy⟩ hus hds (l.take k)
          rw [← HR.out.2.2.2.2.2.1] at hst
          have HS : Hid _ := hst
          clear hus hds hst hu
          rcases hd with rfl | rfl
          all_goals
            go_wp2_with fail
            rw [← HR.out.2.2.2.2.1]
            refine (handleOf_any ⟨_, sl, gn, be, rq, cd, wy⟩ _).mono ?_
            rintro r w4 ⟨rfl, q, os, hw4⟩
            have hb4 := below_grow W1 q os
            rw [← hw4] at hb4
            have ho4 : w4.ownsMap Try.prog 36 (plainElem Try.prog 3) w.heap.size n D := by
              obtain ⟨es, clock, h1, h2⟩ := HR.out.2.1
              exact ⟨es, clock, box_below h1 hb4, h2⟩
            have H4 : Hid (_ ∧ _) := ⟨ho4, HR.out.1.trans (hb4.mono HR.out.1.size)⟩
            clear ho4 hb4 hw4
            go_wp2_with (at_delete; refine wpList_delete_own _ rfl _ _ 56 36 rfl 3 klaw Try.underlying56 _ w.heap.size n _ rfl H4.out.1 _ _ rfl HR.out.2.2.2.2.2.2.2 ?_; intro w5 hown5 hturn5)
            have H5 : Hid (_ ∧ _) := ⟨hown5, H4.out.2.grown hturn5.grown H4.out.2.size (fun j hj => by cases hj; exact Nat.le_refl _)⟩
            clear hown5 hturn5
            go_wp2
            go_roundw
            case rel =>
              refine ⟨k + 1, n, _, by simp, hlt, by omega, H5.out.1, ?_, H5.out.2⟩
              rw [HS.out]
              exact HR.out.2.2.1.del (⟨_, sl, gn, be, rq, cd, wy⟩ : Ou) hs hg
            case measure => simp [intOf]; omega
        · have hus : isUp ⟨kd, sl, gn, be, rq, cd, wy⟩ = false := by simp [isUp]; omega
          have hds : isDown ⟨kd, sl, gn, be, rq, cd, wy⟩ = false := by simp [isDown]; omega
          have hst := lasts_snoc_no ⟨kd, sl, gn, be, rq, cd, wy⟩ hus hds (l.take k)
          rw [← HR.out.2.2.2.2.2.1] at hst
          have HS : Hid _ := hst
          have h1 : ¬ kd = 1 := by omega
          have h5 : ¬ kd = 5 := by omega
          have h6 : ¬ kd = 6 := by omega
          have h7 : ¬ kd = 7 := by omega
          clear hus hds hst hu hd
          go_wp2
          rw [← HR.out.2.2.2.2.1]
          go_roundw
          case rel =>
            refine ⟨k + 1, n, D, by simp, hlt, by omega, HR.out.2.1, ?_, HR.out.1⟩
            rw [HS.out]
            exact HR.out.2.2.1
          case measure => simp [intOf]; omega
    · obtain rfl : k = l.length := by omega
      rw [List.take_length] at hM
      have H2 : Hid (_ ∧ _ ∧ _) := ⟨ho, hM, hb⟩
      clear ho hM hb
      go_wp2
      go_ret
      exact ⟨n, D, rfl, H2.out⟩
end Go.Proofs.Ythfadekfobceaaa.Walks
