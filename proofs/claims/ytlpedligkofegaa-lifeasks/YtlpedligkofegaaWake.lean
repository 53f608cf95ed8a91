/-
  A book at work is changed: wake. Condition: the book may be.
-/
import Derived.Test.YtlpedligkofegaaTake
import Derived.WalkKit
import Derived.ProofKit
import Derived.Handy
import Derived.LoopTactic
import Derived.Below
import Derived.Laws.BitsAllLaws
import Derived.RegionTactic
import Derived.Deep.RegionHeld3
import Derived.Deep.DrawnRows
import Derived.Deep.AppendLies
import Derived.Laws.OwnMore
import Derived.Deep.Onto
import Derived.Deep.QuietTactic
import Derived.BigQuiet
namespace Go.Proofs.Ytlpedligkofegaa.Walks
open Go.RowKit
set_option linter.unusedVariables false
set_option linter.unusedSimpArgs false
attribute [local go_sem ↓] Go.wp_at_zero Go.wp_at_succ

abbrev inC (n : Int) : List Int := [n]

theorem in1 (n : Int) : (inC n).length = 1 := rfl

/-- Whole numbers that can be read. -/
abbrev InAt (w : World) (v : Value) (l : List Int) : Prop := RcAt inC w v l

theorem Opn.kept {base : Nat} {W W' : World} {T : Nat} {va vb : Value} {L : List Lf} {R : List Rq} (h : Opn base W T va vb L R) (hk : ∀ b, (b = T ∨ va.ownBlock = some b ∨ vb.ownBlock = some b) → W'.heap[b]? = W.heap[b]?) : Opn base W' T va vb L R :=
  ⟨(hk T (.inl rfl)).trans h.box, own_block h.lives (fun b hb => hk b (.inr (.inl hb))), own_block h.reqs (fun b hb => hk b (.inr (.inr hb))), h.offL, h.offR, h.apart, h.hT⟩

/-- Lives of which some woke. -/
def someL (L : List Lf) (now : Int) (k : Nat) : List Lf := (L.take k).map (wakes now) ++ L.drop k

theorem someL_len (L : List Lf) (now : Int) (k : Nat) : (someL L now k).length = L.length := by
  unfold someL
  simp
  omega

theorem someL_at {L : List Lf} {now : Int} {k : Nat} (hk : k < L.length) : (someL L now k)[k]'(by rw [someL_len]; exact hk) = L[k] := by
  unfold someL
  rw [List.getElem_append_right (by simp; omega)]
  simp [Nat.min_eq_left (Nat.le_of_lt hk)]

theorem someL_next {L : List Lf} {now : Int} {k : Nat} (hk : k < L.length) : someL L now (k + 1) = (someL L now k).set k (wakes now L[k]) := by
  unfold someL
  rw [List.take_succ_eq_append_getElem hk, List.map_append, List.append_assoc, List.set_append_right _ _ (by simp; omega)]
  congr 1
  simp only [List.length_map, List.length_take, Nat.min_eq_left (Nat.le_of_lt hk), Nat.sub_self, List.drop_eq_getElem_cons hk, List.set_cons_zero]
  rfl

theorem wakes_no {now : Int} {x : Lf} (h : ¬ x.2.1 = 1) : wakes now x = x := if_neg h

theorem someL_same {L : List Lf} {now : Int} {k : Nat} (hk : k < L.length) (h : ¬ L[k].2.1 = 1) : someL L now (k + 1) = someL L now k := by
  rw [someL_next hk, wakes_no h, ← someL_at (now := now) hk]
  exact List.set_getElem_self _

theorem woken_yes {L : List Lf} {k : Nat} (hk : k < L.length) (h : L[k].2.1 = 1) : wokenL (L.take (k + 1)) = wokenL (L.take k) ++ [L[k].1] := by
  unfold wokenL
  rw [List.take_succ_eq_append_getElem hk, List.filter_append, List.map_append]
  simp [h]

theorem woken_no {L : List Lf} {k : Nat} (hk : k < L.length) (h : ¬ L[k].2.1 = 1) : wokenL (L.take (k + 1)) = wokenL (L.take k) := by
  unfold wokenL
  rw [List.take_succ_eq_append_getElem hk, List.filter_append]
  simp [h]

theorem woken_len (L : List Lf) : (wokenL L).length ≤ L.length := by
  unfold wokenL
  rw [List.length_map]
  exact List.length_filter_le _ _

set_option maxHeartbeats 8000000 in
set_option maxRecDepth 100000 in
theorem wake_any (base T : Nat) (p : Option Addr) (c : Nat) (q : Option Addr) (m : Nat) (L : List Lf) (R : List Rq) (now : Int) (w : World) (hbase : base ≤ w.heap.size) (h : Opn base w T (.slice p L.length c) (.slice q R.length m) L R) (hlen : L.length ≤ 900) :
    Calls Try.prog 37 #[.pointer (some ⟨T, 0, none⟩), .int .i64 now] w fun r w' => (∃ pw cw, r = .returned (.slice pw (wokenL L).length cw) ∧ w'.ownsRow w.heap.size 3 1 (.slice pw (wokenL L).length cw) (wokenL L).length (recs inC (wokenL L))) ∧ Opn base w' T (.slice p L.length c) (.slice q R.length m) (L.map (wakes now)) R ∧ Below base w w' := by
  obtain ⟨hc1, hc2⟩ := own_cap h.lives
  have hTlt := h.lt
  have hvl : ∀ b, (b = T ∨ (Value.slice p L.length c).ownBlock = some b ∨ (Value.slice q R.length m).ownBlock = some b) → base ≤ b ∧ b < w.heap.size := by
    rintro b (e | e | e)
    · rw [e]; exact ⟨h.hT, h.lt⟩
    · exact h.lives.lt b e
    · exact h.reqs.lt b e
  obtain ⟨b0, b1, _, _, _⟩ := two_cells h.box
  have H : Hid (_ ∧ _) := ⟨h, hvl⟩
  clear h hvl
  go_enter Try.func37, Try.ntmps37
  go_wp2
  go_loopw [5, 14] (fun s i wr => ∃ (k : Nat) (pw : Option Addr) (kw cw : Nat), i = .int .i64 k ∧ s = .slice pw kw cw ∧ k ≤ L.length ∧ kw = (wokenL (L.take k)).length ∧ wr.ownsRow w.heap.size 3 1 (.slice pw kw cw) kw (recs inC (wokenL (L.take k))) ∧ Opn base wr T (.slice p L.length c) (.slice q R.length m) (someL L now k) R ∧ Below base w wr ∧ w.heap.size ≤ wr.heap.size) (fun _ i _ => L.length - (intOf i).toNat)
  case atStart => exact ⟨0, none, 0, 0, rfl, rfl, Nat.zero_le _, by simp [wokenL], World.ownsRow_nil _ _ _ _, H.out.1, Below.refl _ _, Nat.le_refl _⟩
  case round =>
    obtain ⟨k, pw, kw, cw, rfl, rfl, hk, hkw, ho, hO, hbr, hsz⟩ := hrel
    clear b0 b1
    by_cases hlt : k < L.length
    · have hkI : (k : Int) < (L.length : Int) := by omega
      obtain ⟨g, c', he, _, hglt⟩ := hO.lives.form (by rw [someL_len]; omega)
      have hpg : p = some ⟨g, 0, none⟩ := by injection he
      subst hpg
      have hlv := hO.lives
      rw [someL_len] at hlv
      obtain ⟨⟨x1, x2, x3, x4, x5, x6⟩, hx⟩ : ∃ x, x = L[k] := ⟨_, rfl⟩
      obtain ⟨b0, b1, _, _, hltT⟩ := two_cells hO.box
      have hks : k < (someL L now k).length := by rw [someL_len]; exact hlt
      have e0 := own_cell lf6 hlv (someL_len L now k).symm hks (j := 0) (by omega)
      have e1 := own_cell lf6 hlv (someL_len L now k).symm hks (j := 1) (by omega)
      have e3 := own_cell lf6 hlv (someL_len L now k).symm hks (j := 3) (by omega)
      rw [someL_at hlt, ← hx] at e0 e1 e3
      simp only [List.getElem?_cons_zero, List.getElem?_cons_succ, Option.map_some, Nat.add_zero] at e0 e1 e3
      have f1 := hlv.frozenAt (k * 6 + 1)
      have f3 := hlv.frozenAt (k * 6 + 3)
      have hgw : g < w.heap.size := (H.out.2 g (.inr (.inl rfl))).2
      by_cases h1 : x2 = 1
      · subst h1
        have hst : L[k].2.1 = 1 := by rw [← hx]
        have hw2 := woken_yes hlt hst
        have hs2 := someL_next (now := now) hlt
        rw [← hx] at hw2 hs2
        rw [show wakes now (x1, 1, x3, x4, x5, x6) = (x1, 2, x3, now, x5, x6) from if_pos rfl] at hs2
        obtain ⟨w2, hw2e⟩ : ∃ w2, w2 = (wr.setCell ⟨g, k * 6 + 1, none⟩ (.int .i64 2)).setCell ⟨g, k * 6 + 3, none⟩ (.int .i64 now) := ⟨_, rfl⟩
        have hO2 : Opn base w2 T (.slice (some ⟨g, 0, none⟩) L.length c) (.slice q R.length m) (someL L now (k + 1)) R := by
          have z1 := hO.put hks (j := 1) (by omega) 2 (x1, 2, x3, x4, x5, x6) (by rw [someL_at hlt, ← hx]; rfl)
          have z2 := z1.put (i := k) (by simpa using hks) (j := 3) (by omega) now (x1, 2, x3, now, x5, x6) (by simp)
          rw [hw2e, hs2]
          simpa using z2
        have hb2 : Below base wr w2 := by
          rw [hw2e]
          have hgb := (H.out.2 g (.inr (.inl rfl))).1
          exact ((Below.refl _ _).setCell hgb _).setCell hgb _
        have hs2z : w2.heap.size = wr.heap.size := by rw [hw2e]; simp
        have ho2 : w2.ownsRow w.heap.size 3 1 (.slice pw kw cw) kw (recs inC (wokenL (L.take k))) := by
          rw [hw2e]
          refine own_block ho fun b hb => ?_
          have := (ho.lt b hb).1
          rw [Below.heap_setCell _ _ _ _ (by show b ≠ g; omega), Below.heap_setCell _ _ _ _ (by show b ≠ g; omega)]
        have hkl : kw ≤ 900 := by
          have := woken_len (L.take k)
          rw [List.length_take] at this
          omega
        obtain ⟨gw, cw2, w5, hr, ho5, hg5, hl5⟩ := append_oneR in1 (by decide) Try.underlying36 infoInt rfl ho2 (by omega) 36 x1 #[.int .i64 x1] rfl (by omega) (by unfold maxLen; omega)
        rw [← hw2] at ho5
        have hO5 : Opn base w5 T (.slice (some ⟨g, 0, none⟩) L.length c) (.slice q R.length m) (someL L now (k + 1)) R := hO2.kept fun b hb => by
          have hlt2 := (H.out.2 b hb).2
          exact hg5.block b (by omega) (fun e => by have := (ho2.lt b e.symm).1; omega)
        have hB5 : Below base w w5 := (hbr.trans hb2).trans (below_grown hg5 (Nat.le_trans hbase (by omega)) (fun b e => Nat.le_trans hbase (ho2.lt b e).1))
        have hr' : (Builtin.append_ #[36, 36] 36 #[.slice pw kw cw, .slice (some ⟨wr.heap.size, 0, none⟩) 1 1]).run Try.prog (((wr.setCell ⟨g, k * 6 + 1, none⟩ (.int .i64 2)).setCell ⟨g, k * 6 + 3, none⟩ (.int .i64 now)).alloc (.cells #[.int .i64 x1] 3)) = .ok (.slice (some ⟨gw, 0, none⟩) (kw + 1) cw2) w5 := by rw [← hw2e, ← hs2z]; exact hr
        have HR : Hid (_ ∧ _ ∧ _ ∧ _ ∧ _ ∧ _) := ⟨hr', ho5, hO5, hB5, (by have := hg5.size; omega : w.heap.size ≤ w5.heap.size), (by rw [hw2]; simp; omega : kw + 1 = (wokenL (L.take (k + 1))).length)⟩
        clear hr hr' ho5 hO5 hB5 ho hO hbr hkw hlv hx hO2 hb2 ho2 hg5 hl5 hst hw2 hs2 he hks hs2z hw2e
        go_wp2_with (at_builtin; (with_reducible refine wpList_append_eq rfl _ _ 36 rfl (.slice pw kw cw) (.slice (some ⟨wr.heap.size, 0, none⟩) 1 1) (.slice (some ⟨gw, 0, none⟩) (kw + 1) cw2) w5 ?hs ?hx ?hr ?_); (case hs => rfl); (case hx => rfl); (case hr => exact HR.out.1))
        go_wp2
        go_roundw
        case rel => exact ⟨k + 1, some ⟨gw, 0, none⟩, kw + 1, cw2, by simp, rfl, hlt, HR.out.2.2.2.2.2, HR.out.2.1, HR.out.2.2.1, HR.out.2.2.2.1, HR.out.2.2.2.2.1⟩
        case measure => simp [intOf]; omega
      · have hst : ¬ L[k].2.1 = 1 := by rw [← hx]; exact h1
        have hw2 := woken_no hlt hst
        have hs2 := someL_same (now := now) hlt hst
        rw [← hw2] at ho hkw
        rw [← hs2] at hO
        have hne : (x2 == 1) = false := by simpa using h1
        have HR : Hid (_ ∧ _ ∧ _ ∧ _ ∧ _) := ⟨hkw, ho, hO, hbr, hsz⟩
        clear ho hO hbr hkw hlv hx hst hw2 hs2 he hks
        go_wp2
        go_roundw
        case rel => exact ⟨k + 1, pw, kw, cw, by simp, rfl, hlt, HR.out.1, HR.out.2.1, HR.out.2.2.1, HR.out.2.2.2.1, HR.out.2.2.2.2⟩
        case measure => simp [intOf]; omega
    · obtain rfl : k = L.length := by omega
      have hs : someL L now L.length = L.map (wakes now) := by simp [someL]
      rw [hs] at hO
      rw [List.take_length] at hkw ho
      subst hkw
      have HR : Hid (_ ∧ _ ∧ _) := ⟨ho, hO, hbr⟩
      clear ho hO hbr hs
      go_wp2
      go_ret
      exact ⟨⟨_, _, rfl, HR.out.1⟩, HR.out.2.1, HR.out.2.2⟩
end Go.Proofs.Ytlpedligkofegaa.Walks
