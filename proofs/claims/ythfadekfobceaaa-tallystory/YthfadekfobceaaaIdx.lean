/-
  Searches along outputs: the closures, IndexFunc and ContainsFunc with each; check, checkBackends. Condition: what is read can be read.
-/
import Derived.Test.YthfadekfobceaaaTp
import Derived.WalkKit
import Derived.ProofKit
import Derived.Handy
import Derived.LoopTactic
import Derived.Below
import Derived.Laws.BitsAllLaws
import Derived.RegionTactic
import Derived.Deep.RegionHeld3
import Derived.Deep.DrawnRows
import Derived.Deep.AppendLies
import Derived.Laws.OwnMore
import Derived.Deep.Onto
import Derived.Deep.QuietTactic
import Derived.BigQuiet
namespace Go.Proofs.Ythfadekfobceaaa.Walks
open Go.RowKit
set_option linter.unusedVariables false
set_option linter.unusedSimpArgs false
attribute [local go_sem ↓] Go.wp_at_zero Go.wp_at_succ

abbrev OsAt (w : World) (v : Value) (l : List Ou) : Prop := RvAt ouV w v l

theorem OsAt.parts {w : World} {v : Value} {l : List Ou} (h : OsAt w v l) :
    ∃ a cap, v = .slice a l.length cap ∧ l.length ≤ cap ∧ cap ≤ maxLen ∧ ∀ i (hi : i < l.length), ∃ b off, a = some ⟨b, off, none⟩ ∧ b < w.heap.size ∧ w.cell? ⟨b, off + i * 7, none⟩ = some (.int .i64 l[i].kind) ∧ w.cell? ⟨b, off + i * 7 + 1, none⟩ = some (.int .i64 l[i].slot) ∧ w.cell? ⟨b, off + i * 7 + 2, none⟩ = some (.int .i64 l[i].gen) ∧ w.cell? ⟨b, off + i * 7 + 3, none⟩ = some (.int .i64 l[i].be) ∧ w.cell? ⟨b, off + i * 7 + 4, none⟩ = some (.int .i64 l[i].req) ∧ w.cell? ⟨b, off + i * 7 + 5, none⟩ = some (.int .i64 l[i].code) ∧ w.cell? ⟨b, off + i * 7 + 6, none⟩ = some (.int .i64 l[i].why) := by
  obtain ⟨a, cap, h1, h2, h3, h4⟩ := RvAt.parts ou7 h
  refine ⟨a, cap, h1, h2, h3, fun i hi => ?_⟩
  obtain ⟨b, off, e1, e2, e3⟩ := h4 i hi
  exact ⟨b, off, e1, e2, (e3 0 (by omega)).trans rfl, (e3 1 (by omega)).trans rfl, (e3 2 (by omega)).trans rfl, (e3 3 (by omega)).trans rfl, (e3 4 (by omega)).trans rfl, (e3 5 (by omega)).trans rfl, (e3 6 (by omega)).trans rfl⟩

theorem take_snoc {α : Type} {l : List α} {k : Nat} (h : k < l.length) {x : α} (hx : x = l[k]) : l.take (k + 1) = l.take k ++ [x] := by
  rw [List.take_succ_eq_append_getElem h, hx]

def idxI (i n : Nat) : Int := if i < n then (i : Int) else -1

theorem findIdx_is {α : Type} {p : α → Bool} {l : List α} {k : Nat} (hk : k < l.length) (h1 : ∀ t ∈ l.take k, p t = false) (h2 : p l[k] = true) : l.findIdx p = k := by
  rw [List.findIdx_eq hk]
  refine ⟨h2, fun j hj => h1 _ ?_⟩
  exact List.mem_take_iff_getElem.2 ⟨j, by omega, rfl⟩

theorem findIdx_no {α : Type} {p : α → Bool} {l : List α} (h : ∀ t ∈ l, p t = false) : l.findIdx p = l.length := List.findIdx_eq_length.2 h

theorem idx_pos {α : Type} {p : α → Bool} {l : List α} : decide (0 ≤ idxI (l.findIdx p) l.length) = l.any p := by
  unfold idxI
  by_cases h : l.findIdx p < l.length
  · rw [if_pos h]
    have : l.any p = true := List.any_eq_true.2 ⟨l[l.findIdx p], List.getElem_mem h, List.findIdx_getElem (w := h)⟩
    rw [this]
    simp
  · rw [if_neg h]
    have : l.any p = false := by
      rw [List.any_eq_false]
      intro x hx hp
      exact h (List.findIdx_lt_length_of_exists ⟨x, hx, hp⟩)
    rw [this]
    rfl

set_option maxHeartbeats 2000000 in
theorem clo_bad (f : Ou) (w : World) :
    Calls Try.prog 33 #[ouA f] w fun r w' => r = .returned (.bool (badO f)) ∧ Below w.heap.size w w' := by
  have hq : badO f = (decide (f.kind < 1) || decide (10 < f.kind) || decide (f.why < 0) || decide (5 < f.why)) := rfl
  rw [hq]
  clear hq
  cases t0 : decide (f.kind < 1)
  · cases t1 : decide (10 < f.kind)
    · cases t2 : decide (f.why < 0)
      · cases t3 : decide (5 < f.why)
        · go_enter Try.func33, Try.ntmps33
          go_wp2
          go_ret
          exact ⟨by rfl, below_new w⟩
        · go_enter Try.func33, Try.ntmps33
          go_wp2
          go_ret
          exact ⟨by rfl, below_new w⟩
      · go_enter Try.func33, Try.ntmps33
        go_wp2
        go_ret
        exact ⟨by rfl, below_new w⟩
    · go_enter Try.func33, Try.ntmps33
      go_wp2
      go_ret
      exact ⟨by rfl, below_new w⟩
  · go_enter Try.func33, Try.ntmps33
    go_wp2
    go_ret
    exact ⟨by rfl, below_new w⟩

set_option maxHeartbeats 2000000 in
theorem index_bad (v : Value) (l : List Ou) (w : World) (hv : OsAt w v l) :
    Calls Try.prog 36 #[v, .func (.func 33) #[] #[]] w fun r w' => r = .returned (.int .i64 (idxI (l.findIdx (badO)) l.length)) ∧ Below w.heap.size w w' := by
  obtain ⟨q, hq0⟩ : ∃ q : Ou → Bool, q = (badO) := ⟨_, rfl⟩
  obtain ⟨a, ca, rfl, hca, hma, pa⟩ := OsAt.parts hv
  unfold maxLen at hma
  have HQ : Hid (∀ (x : Ou) (W : World), Below w.heap.size w W → Calls Try.prog 33 #[ouA x] W fun r w' => r = .returned (.bool (q x)) ∧ Below W.heap.size W w') := by
    rw [hq0]
    exact fun x W hb => clo_bad x W
  rw [← hq0]
  obtain ⟨ans, hans⟩ : ∃ ans, ans = idxI (l.findIdx q) l.length := ⟨_, rfl⟩
  rw [← hans]
  have H : Hid _ := hans
  clear hv hans hq0
  go_enter Try.func36, Try.ntmps36
  go_wp2
  go_loopw [8] (fun i wr => ∃ k : Nat, i = .int .i64 k ∧ k ≤ l.length ∧ (∀ t ∈ l.take k, q t = false) ∧ Below w.heap.size w wr) (fun i _ => l.length - (intOf i).toNat)
  case atStart => exact ⟨0, rfl, Nat.zero_le _, by simp, Below.refl _ _⟩
  case round =>
    obtain ⟨k, rfl, hk, hall, hbr⟩ := hrel
    by_cases hlt : k < l.length
    · obtain ⟨b1, o1, rfl, hb1, c1, c2, c3, c4, c5, c6, c7⟩ := pa k hlt
      have e1 := (hbr.cell (p := ⟨b1, o1 + k * 7, none⟩) hb1).trans c1
      have e2 := (hbr.cell (p := ⟨b1, o1 + k * 7 + 1, none⟩) hb1).trans c2
      have e3 := (hbr.cell (p := ⟨b1, o1 + k * 7 + 2, none⟩) hb1).trans c3
      have e4 := (hbr.cell (p := ⟨b1, o1 + k * 7 + 3, none⟩) hb1).trans c4
      have e5 := (hbr.cell (p := ⟨b1, o1 + k * 7 + 4, none⟩) hb1).trans c5
      have e6 := (hbr.cell (p := ⟨b1, o1 + k * 7 + 5, none⟩) hb1).trans c6
      have e7 := (hbr.cell (p := ⟨b1, o1 + k * 7 + 6, none⟩) hb1).trans c7
      have HA : Hid (_ ∧ _) := ⟨hall, hbr⟩
      have hkI : (k : Int) < (l.length : Int) := by omega
      have htk : l.take (k + 1) = l.take k ++ [l[k]] := List.take_succ_eq_append_getElem hlt
      have hfs : q l[k] = true → l.findIdx q = k := fun h => findIdx_is hlt hall h
      have hxk : ∃ x, x = l[k] := ⟨_, rfl⟩
      obtain ⟨x, hxk⟩ := hxk
      rw [← hxk] at e1 e2 e3 e4 e5 e6 e7 htk hfs
      have HX : Hid (_ ∧ _) := ⟨htk, hfs⟩
      clear hall hbr c1 c2 c3 c4 c5 c6 c7 hb1 pa htk hfs hxk
      cases hd : q x
      · go_wp2_with fail
        refine (HQ.out x _ HA.out.2).mono ?_
        rw [hd]
        rintro r w2 ⟨rfl, hb2⟩
        have H2 : Hid _ := hb2
        clear hb2
        go_wp2
        go_roundw
        case rel =>
          refine ⟨k + 1, by simp, hlt, fun t ht => ?_, HA.out.2.trans (H2.out.mono HA.out.2.size)⟩
          rw [HX.out.1] at ht
          rcases List.mem_append.1 ht with ht | ht
          · exact HA.out.1 t ht
          · simp at ht
            rw [ht]
            exact hd
        case measure => simp [intOf]; omega
      · go_wp2_with fail
        refine (HQ.out x _ HA.out.2).mono ?_
        rw [hd]
        rintro r w2 ⟨rfl, hb2⟩
        have HE : Hid (ans = (k : Int)) := by show ans = _; rw [H.out, HX.out.2 hd]; exact if_pos hlt
        have H2 : Hid _ := hb2
        clear hb2
        go_wp2
        go_ret
        exact ⟨by rw [HE.out]; rfl, HA.out.2.trans (H2.out.mono HA.out.2.size)⟩
    · have HE : Hid (ans = -1) := by
        show ans = _
        rw [H.out, findIdx_no fun t ht => hall t (by rw [List.take_of_length_le (by omega)]; exact ht)]
        exact if_neg (Nat.lt_irrefl _)
      have HB : Hid _ := hbr
      clear hall hbr pa
      go_wp2
      go_ret
      exact ⟨by rw [HE.out]; rfl, HB.out⟩

theorem contains_bad (v : Value) (l : List Ou) (w : World) (hv : OsAt w v l) :
    Calls Try.prog 34 #[v, .func (.func 33) #[] #[]] w fun r w' => r = .returned (.bool (l.any (badO))) ∧ Below w.heap.size w w' := by
  rw [← idx_pos]
  have HV : Hid _ := index_bad v l w hv
  obtain ⟨ix, hix⟩ : ∃ ix, ix = idxI (l.findIdx (badO)) l.length := ⟨_, rfl⟩
  rw [← hix] at HV ⊢
  clear hix hv
  go_enter Try.func34, Try.ntmps34
  go_wp2_with fail
  refine Calls.mono HV.out ?_
  rintro r w1 ⟨rfl, hb⟩
  have HB : Hid _ := hb
  clear hb
  go_wp2
  go_ret
  exact ⟨rfl, HB.out⟩

set_option maxHeartbeats 2000000 in
theorem clo_badB (f : Ou) (w : World) :
    Calls Try.prog 35 #[ouA f] w fun r w' => r = .returned (.bool (badB f)) ∧ Below w.heap.size w w' := by
  have hq : badB f = (decide (f.be < 0) || decide (12 ≤ f.be)) := rfl
  rw [hq]
  clear hq
  cases t0 : decide (f.be < 0)
  · cases t1 : decide (12 ≤ f.be)
    · go_enter Try.func35, Try.ntmps35
      go_wp2
      go_ret
      exact ⟨by rfl, below_new w⟩
    · go_enter Try.func35, Try.ntmps35
      go_wp2
      go_ret
      exact ⟨by rfl, below_new w⟩
  · go_enter Try.func35, Try.ntmps35
    go_wp2
    go_ret
    exact ⟨by rfl, below_new w⟩

set_option maxHeartbeats 2000000 in
theorem index_badB (v : Value) (l : List Ou) (w : World) (hv : OsAt w v l) :
    Calls Try.prog 36 #[v, .func (.func 35) #[] #[]] w fun r w' => r = .returned (.int .i64 (idxI (l.findIdx (badB)) l.length)) ∧ Below w.heap.size w w' := by
  obtain ⟨q, hq0⟩ : ∃ q : Ou → Bool, q = (badB) := ⟨_, rfl⟩
  obtain ⟨a, ca, rfl, hca, hma, pa⟩ := OsAt.parts hv
  unfold maxLen at hma
  have HQ : Hid (∀ (x : Ou) (W : World), Below w.heap.size w W → Calls Try.prog 35 #[ouA x] W fun r w' => r = .returned (.bool (q x)) ∧ Below W.heap.size W w') := by
    rw [hq0]
    exact fun x W hb => clo_badB x W
  rw [← hq0]
  obtain ⟨ans, hans⟩ : ∃ ans, ans = idxI (l.findIdx q) l.length := ⟨_, rfl⟩
  rw [← hans]
  have H : Hid _ := hans
  clear hv hans hq0
  go_enter Try.func36, Try.ntmps36
  go_wp2
  go_loopw [8] (fun i wr => ∃ k : Nat, i = .int .i64 k ∧ k ≤ l.length ∧ (∀ t ∈ l.take k, q t = false) ∧ Below w.heap.size w wr) (fun i _ => l.length - (intOf i).toNat)
  case atStart => exact ⟨0, rfl, Nat.zero_le _, by simp, Below.refl _ _⟩
  case round =>
    obtain ⟨k, rfl, hk, hall, hbr⟩ := hrel
    by_cases hlt : k < l.length
    · obtain ⟨b1, o1, rfl, hb1, c1, c2, c3, c4, c5, c6, c7⟩ := pa k hlt
      have e1 := (hbr.cell (p := ⟨b1, o1 + k * 7, none⟩) hb1).trans c1
      have e2 := (hbr.cell (p := ⟨b1, o1 + k * 7 + 1, none⟩) hb1).trans c2
      have e3 := (hbr.cell (p := ⟨b1, o1 + k * 7 + 2, none⟩) hb1).trans c3
      have e4 := (hbr.cell (p := ⟨b1, o1 + k * 7 + 3, none⟩) hb1).trans c4
      have e5 := (hbr.cell (p := ⟨b1, o1 + k * 7 + 4, none⟩) hb1).trans c5
      have e6 := (hbr.cell (p := ⟨b1, o1 + k * 7 + 5, none⟩) hb1).trans c6
      have e7 := (hbr.cell (p := ⟨b1, o1 + k * 7 + 6, none⟩) hb1).trans c7
      have HA : Hid (_ ∧ _) := ⟨hall, hbr⟩
      have hkI : (k : Int) < (l.length : Int) := by omega
      have htk : l.take (k + 1) = l.take k ++ [l[k]] := List.take_succ_eq_append_getElem hlt
      have hfs : q l[k] = true → l.findIdx q = k := fun h => findIdx_is hlt hall h
      have hxk : ∃ x, x = l[k] := ⟨_, rfl⟩
      obtain ⟨x, hxk⟩ := hxk
      rw [← hxk] at e1 e2 e3 e4 e5 e6 e7 htk hfs
      have HX : Hid (_ ∧ _) := ⟨htk, hfs⟩
      clear hall hbr c1 c2 c3 c4 c5 c6 c7 hb1 pa htk hfs hxk
      cases hd : q x
      · go_wp2_with fail
        refine (HQ.out x _ HA.out.2).mono ?_
        rw [hd]
        rintro r w2 ⟨rfl, hb2⟩
        have H2 : Hid _ := hb2
        clear hb2
        go_wp2
        go_roundw
        case rel =>
          refine ⟨k + 1, by simp, hlt, fun t ht => ?_, HA.out.2.trans (H2.out.mono HA.out.2.size)⟩
          rw [HX.out.1] at ht
          rcases List.mem_append.1 ht with ht | ht
          · exact HA.out.1 t ht
          · simp at ht
            rw [ht]
            exact hd
        case measure => simp [intOf]; omega
      · go_wp2_with fail
        refine (HQ.out x _ HA.out.2).mono ?_
        rw [hd]
        rintro r w2 ⟨rfl, hb2⟩
        have HE : Hid (ans = (k : Int)) := by show ans = _; rw [H.out, HX.out.2 hd]; exact if_pos hlt
        have H2 : Hid _ := hb2
        clear hb2
        go_wp2
        go_ret
        exact ⟨by rw [HE.out]; rfl, HA.out.2.trans (H2.out.mono HA.out.2.size)⟩
    · have HE : Hid (ans = -1) := by
        show ans = _
        rw [H.out, findIdx_no fun t ht => hall t (by rw [List.take_of_length_le (by omega)]; exact ht)]
        exact if_neg (Nat.lt_irrefl _)
      have HB : Hid _ := hbr
      clear hall hbr pa
      go_wp2
      go_ret
      exact ⟨by rw [HE.out]; rfl, HB.out⟩

theorem contains_badB (v : Value) (l : List Ou) (w : World) (hv : OsAt w v l) :
    Calls Try.prog 34 #[v, .func (.func 35) #[] #[]] w fun r w' => r = .returned (.bool (l.any (badB))) ∧ Below w.heap.size w w' := by
  rw [← idx_pos]
  have HV : Hid _ := index_badB v l w hv
  obtain ⟨ix, hix⟩ : ∃ ix, ix = idxI (l.findIdx (badB)) l.length := ⟨_, rfl⟩
  rw [← hix] at HV ⊢
  clear hix hv
  go_enter Try.func34, Try.ntmps34
  go_wp2_with fail
  refine Calls.mono HV.out ?_
  rintro r w1 ⟨rfl, hb⟩
  have HB : Hid _ := hb
  clear hb
  go_wp2
  go_ret
  exact ⟨rfl, HB.out⟩

set_option maxHeartbeats 1000000 in
theorem check_any (v : Value) (l : List Ou) (w : World) (hv : OsAt w v l) :
    Calls Try.prog 24 #[v] w fun r w' => r = .returned (.int .i64 (if anyBad l then 5 else 0)) ∧ Below w.heap.size w w' := by
  have HV : Hid _ := contains_bad v l w hv
  have hq : l.any badO = anyBad l := rfl
  rw [hq] at HV
  clear hq hv
  cases h : anyBad l
  · rw [h] at HV
    go_enter Try.func24, Try.ntmps24
    go_wp2_with fail
    refine Calls.mono HV.out ?_
    rintro r w1 ⟨rfl, hb⟩
    have HB : Hid _ := hb
    clear hb
    go_wp2
    go_ret
    exact ⟨rfl, HB.out⟩
  · rw [h] at HV
    go_enter Try.func24, Try.ntmps24
    go_wp2_with fail
    refine Calls.mono HV.out ?_
    rintro r w1 ⟨rfl, hb⟩
    have HB : Hid _ := hb
    clear hb
    go_wp2
    go_ret
    exact ⟨rfl, HB.out⟩

set_option maxHeartbeats 1000000 in
theorem checkBackends_any (v : Value) (l : List Ou) (w : World) (hv : OsAt w v l) :
    Calls Try.prog 30 #[v] w fun r w' => r = .returned (.int .i64 (if anyBadB l then 2 else 0)) ∧ Below w.heap.size w w' := by
  have HV : Hid _ := contains_badB v l w hv
  have hq : l.any badB = anyBadB l := rfl
  rw [hq] at HV
  clear hq hv
  cases h : anyBadB l
  · rw [h] at HV
    go_enter Try.func30, Try.ntmps30
    go_wp2_with fail
    refine Calls.mono HV.out ?_
    rintro r w1 ⟨rfl, hb⟩
    have HB : Hid _ := hb
    clear hb
    go_wp2
    go_ret
    exact ⟨rfl, HB.out⟩
  · rw [h] at HV
    go_enter Try.func30, Try.ntmps30
    go_wp2_with fail
    refine Calls.mono HV.out ?_
    rintro r w1 ⟨rfl, hb⟩
    have HB : Hid _ := hb
    clear hb
    go_wp2
    go_ret
    exact ⟨rfl, HB.out⟩
end Go.Proofs.Ythfadekfobceaaa.Walks
