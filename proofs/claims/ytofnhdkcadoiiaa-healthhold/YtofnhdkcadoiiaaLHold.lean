/-
  HealthHold: who is thrown out comes back at its time. No condition.
-/
import Derived.Test.YtofnhdkcadoiiaaWatch
import Derived.WalkKit
import Derived.ProofKit
import Derived.Handy
import Derived.LoopTactic
import Derived.Below
import Derived.Laws.BitsAllLaws
import Derived.RegionTactic
import Derived.Deep.RegionHeld3
import Derived.Deep.DrawnRows
import Derived.Deep.AppendLies
import Derived.Laws.OwnMore
import Derived.Deep.Onto
import Derived.Deep.QuietTactic
import Derived.BigQuiet
namespace Go.Proofs.Ytofnhdkcadoiiaa.Walks
open Go.RowKit
set_option linter.unusedVariables false
set_option linter.unusedSimpArgs false
attribute [local go_sem ↓] Go.wp_at_zero Go.wp_at_succ

theorem pow_step (d : Int) (k : Nat) : d * 2 ^ (k + 1) = 2 * (d * 2 ^ k) := by rw [Int.pow_succ, ← Int.mul_assoc, Int.mul_comm]

theorem pow_mono (d : Int) (hd : 1 ≤ d) (k j : Nat) : d * 2 ^ k ≤ d * 2 ^ (k + j) := by
  induction j with
  | zero => exact Int.le_refl _
  | succ j ih =>
    rw [← Nat.add_assoc, pow_step]
    have : 0 ≤ d * 2 ^ (k + j) := Int.mul_nonneg (by omega) (Int.pow_nonneg (by decide))
    omega

theorem hold_bd {d : Int} (hd : 1 ≤ d ∧ d ≤ 500) (k : Nat) : d ≤ holdV d k ∧ holdV d k ≤ 500 := by
  have := pow_mono d hd.1 0 k
  simp at this
  unfold holdV
  rw [Int.toNat_natCast]
  omega

theorem hold_mono {d : Int} (hd : 1 ≤ d) {k j : Nat} (h : k ≤ j) : holdV d k ≤ holdV d j := by
  have := pow_mono d hd k (j - k)
  rw [show k + (j - k) = j by omega] at this
  unfold holdV
  rw [Int.toNat_natCast, Int.toNat_natCast]
  omega

theorem back_stays {n f d : Int} {l : List Bool} {o : Bool} {u t : Int} {now : Int} (hw : WatOk n f d) (hnow : 0 ≤ now ∧ now ≤ 1099511627776) (hh : HOk n l.length o u t) (h : o = false ∨ now < u) : backO n f d l o u t now = ((l, o, u, t), false, 0) := by
  unfold backO allE
  rw [if_pos hw, if_pos hnow, if_pos hh, if_pos rfl, if_neg]
  rintro ⟨h1, h2⟩
  rcases h with h | h
  · rw [h1] at h; cases h
  · omega

theorem back_comes {n f d : Int} {l : List Bool} {u t : Int} {now : Int} (hw : WatOk n f d) (hnow : 0 ≤ now ∧ now ≤ 1099511627776) (hh : HOk n l.length true u t) (h : u ≤ now) : backO n f d l true u t now = ((l, false, 0, t), true, 0) := by
  unfold backO allE
  rw [if_pos hw, if_pos hnow, if_pos hh, if_pos rfl, if_pos ⟨rfl, h⟩]

theorem hpostF_none {w w' : World} {oo : Bool} {ou ot : Int} {ob : Bool} {oe : Int} {r : Ending} (h : HPostF w (([], oo, ou, ot), ob, oe) r w') :
    ∃ p c, r = .returned (.tuple #[hltV (.slice p 0 c) oo ou ot, .bool ob, .int .i64 oe]) ∧ BsAt w' (.slice p 0 c) [] ∧ (∀ b, Value.ownBlock (.slice p 0 c) = some b → w.heap.size ≤ b) ∧ Below w.heap.size w w' := h

set_option maxHeartbeats 16000000 in
set_option maxRecDepth 100000 in
theorem hold_law (x0 : Int) (h0 : (Lit.int .i64 x0).wf = true) (x1 : Int) (h1 : (Lit.int .i64 x1).wf = true) (x2 : Int) (h2 : (Lit.int .i64 x2).wf = true) (w : World) :
    Calls Try.prog 8 #[.int .i64 x0, .int .i64 x1, .int .i64 x2] w fun e w' => e = .returned (.bool true) ∧ Below w.heap.size w w' := by
  obtain ⟨n, f, d, hn, hf, hd, hnp, hwat⟩ := watch_some 0 x0 x1 (by decide) h0 h1
  obtain rfl : n = 1 := hnp
  obtain rfl : f = 1 := by omega
  obtain ⟨pk, hpk, hpick⟩ := picked_some x2 14 h2 (by omega) (by omega)
  have hdI : (1 : Int) ≤ d ∧ (d : Int) ≤ 500 := by omega
  have hok : WatOk 1 1 d := ⟨by omega, by omega, hdI⟩
  have hN : Hid (∀ (v : Value) (N : Int) (t : Nat) (W : World), BsAt W v [] → 0 ≤ N ∧ N ≤ 7000 → t ≤ 10 → Calls Try.prog 12 #[watV 1 1 d, hltV v false 0 t, .bool true, .int .i64 N, .bool true] W (HPostF W (([], true, N + holdV d t, (min (t + 1) 10 : Nat)), true, 0))) := fun (v : Value) (N : Int) (t : Nat) (W : World) hv hN ht => by
    have := note_fresh 1 1 d v [] false 0 t true N true W hv (by simp)
    rw [note_out hok (by omega) ⟨by simp, by omega, by omega, .inr rfl⟩ (by decide)] at this
    rwa [show ((min (t + 1) 10 : Nat) : Int) = min ((t : Int) + 1) 10 by omega]
  have hB1 : Hid (∀ (v : Value) (U : Int) (t : Nat) (W : World), BsAt W v [] → 1 ≤ U ∧ U ≤ 7500 → t ≤ 10 → Calls Try.prog 15 #[watV 1 1 d, hltV v true U t, .int .i64 (U - 1)] W (HPostF W (([], true, U, t), false, 0))) := fun (v : Value) (U : Int) (t : Nat) (W : World) hv hN ht => by
    have := back_fresh 1 1 d v [] true U t (U - 1) W hv
    rwa [back_stays hok (by omega) ⟨by simp, by omega, by omega, .inl rfl⟩ (.inr (by omega))] at this
  have hB2 : Hid (∀ (v : Value) (U : Int) (t : Nat) (W : World), BsAt W v [] → 1 ≤ U ∧ U ≤ 7500 → t ≤ 10 → Calls Try.prog 15 #[watV 1 1 d, hltV v true U t, .int .i64 U] W (HPostF W (([], false, 0, t), true, 0))) := fun (v : Value) (U : Int) (t : Nat) (W : World) hv hN ht => by
    have := back_fresh 1 1 d v [] true U t U W hv
    rwa [back_comes hok (by omega) ⟨by simp, by omega, by omega, .inl rfl⟩ (Int.le_refl _)] at this
  have P : Hid (_ ∧ _ ∧ _) := ⟨hwat, hpick, hdI⟩
  clear hwat hpick hok h0 h1 h2 hn hf hdI hd
  go_enter Try.func8, Try.ntmps8
  go_wp2_with fail
  refine (P.out.1 _).mono ?_
  rintro r w1 ⟨rfl, hb1⟩
  obtain ⟨W1, hW1⟩ : ∃ W1, W1 = (w1.alloc (.cells #[.int .i64 1, .int .i64 1, .int .i64 d] 23)).alloc (.cells #[.slice none 0 0, .bool false, .int .i64 0, .int .i64 0] 29) := ⟨_, rfl⟩
  have hbW : Below w1.heap.size w1 W1 := by rw [hW1]; exact ((Below.refl _ _).alloc (Nat.le_refl _) _).alloc (by simp) _
  have HG : Hid (Wt w W1 w1.heap.size 1 1 d ∧ Ht w W1 (w1.heap.size + 1 + 1) (w1.heap.size + 1) (.slice none 0 0) [] false 0 ((0 : Nat) : Int)) :=
    ⟨⟨by rw [hW1]; exact heap_old _ _ (heap_alloc_new _ _), hb1.size, hb1.trans (hbW.mono hb1.size)⟩, by rw [hW1]; exact heap_second _ _ _, bsAt_nil _, (by intro b h; cases h), by have := hb1.size; omega, by omega⟩
  clear hb1 hbW
  go_wp2
  rw [← hW1]
  clear hW1
  obtain ⟨g, hg⟩ : ∃ g, g = w1.heap.size := ⟨_, rfl⟩
  rw [← hg] at HG ⊢
  clear hg
  obtain ⟨h, hh⟩ : ∃ h, h = g + 1 := ⟨_, rfl⟩
  rw [← hh] at HG ⊢
  have hgh : g ≠ h := by omega
  clear hh
  go_loopw [9, 10, 11] (fun nw la i wr => ∃ (k : Nat) (N L : Int) (p : Option Addr) (c : Nat), i = .int .i64 k ∧ nw = .int .i64 N ∧ la = .int .i64 L ∧ k ≤ pk + 1 ∧ (0 ≤ N ∧ N ≤ 500 * k) ∧ (0 ≤ L ∧ L ≤ 500) ∧ (k = 0 ∧ L = 0 ∨ 0 < k ∧ L = holdV d ((min (k - 1) 10 : Nat) : Int)) ∧ Wt w wr g 1 1 d ∧ Ht w wr (h + 1) h (.slice p 0 c) [] false 0 ((min k 10 : Nat) : Int)) (fun _ _ i _ => pk + 1 - (intOf i).toNat)
  case atStart => exact ⟨0, 0, 0, none, 0, rfl, rfl, rfl, Nat.zero_le _, by omega, by omega, .inl ⟨rfl, rfl⟩, HG.out.1, HG.out.2⟩
  case round =>
    obtain ⟨k, N, L, p, c, rfl, rfl, rfl, hk, hN1, hL, hLk, hG⟩ := hrel
    by_cases hlt : k ≤ pk
    · have hkd : (k : Int) ≤ (pk : Int) := by omega
      have hhb := hold_bd P.out.2.2 (min k 10)
      have hLh : L ≤ holdV d ((min k 10 : Nat) : Int) := by
        rcases hLk with ⟨_, rfl⟩ | ⟨_, rfl⟩
        · have := P.out.2.2; omega
        · exact hold_mono P.out.2.2.1 (by omega)
      obtain ⟨t, ht⟩ : ∃ t, t = min k 10 := ⟨_, rfl⟩
      rw [← ht] at hG hhb hLh
      have ht10 : t ≤ 10 := by omega
      obtain ⟨t', ht'⟩ : ∃ t', t' = min (t + 1) 10 := ⟨_, rfl⟩
      have ht10' : t' ≤ 10 := by omega
      have HNo : Hid _ := hN.out (.slice p 0 c) N t
      rw [← ht'] at HNo
      obtain ⟨U, hU⟩ : ∃ U, U = N + holdV d (t : Int) := ⟨_, rfl⟩
      rw [← hU] at HNo
      have hP := P.out.2.2
      have u0 : ¬ (U ≤ N) := by omega
      have u1 : ¬ (N + 500 < U) := by omega
      have u2 : ¬ (U - N < L) := by omega
      have u3 : 1 ≤ U := by omega
      have u4 : U ≤ 7500 := by omega
      have n0 : 0 ≤ N := hN1.1
      have n1 : N ≤ 7000 := by omega
      have HF : Hid (_ ∧ _ ∧ _ ∧ _) := ⟨ht, ht', hU, hN1.2⟩
      have HGk : Hid (Wt w wr g 1 1 d ∧ Ht w wr (h + 1) h (.slice p 0 c) [] false 0 (t : Int)) := hG
      clear hG ht ht' hU hhb hLh hLk hL hN1 hP
      obtain ⟨c0, c1, c2, l0⟩ := HGk.out.1.cells
      obtain ⟨e0, e1, e2, e3, l1⟩ := HGk.out.2.cells
      go_wp2_with fail
      refine (P.out.2.1 _).mono ?_
      rintro e w' ⟨rfl, rfl⟩
      go_wp2_with fail
      refine Calls.mono (HNo.out _ HGk.out.2.2.1 ⟨n0, n1⟩ ht10) ?_
      intro r w2 hp2
      obtain ⟨p2, k2, rfl, hat2, hfr2, hb2⟩ := hpostF_none hp2
      have H2 : Hid (Wt w w2 g 1 1 d ∧ Ht w w2 (h + 1) h (.slice p 0 c) [] false 0 (t : Int) ∧ BsAt w2 (.slice p2 0 k2) []) := ⟨HGk.out.1.below hb2, HGk.out.2.below hb2, hat2⟩
      clear hp2 hat2 hfr2 hb2 HGk HNo c0 c1 c2 l0 e0 e1 e2 e3 l1
      obtain ⟨c0, c1, c2, l0⟩ := H2.out.1.cells
      go_wp2_with fail
      obtain ⟨W2, hW2⟩ : ∃ W2, W2 = w2.alloc (.cells #[.slice p2 0 k2, .bool true, .int .i64 U, .int .i64 t'] 29) := ⟨_, rfl⟩
      have hb2 : Below w2.heap.size w2 W2 := by rw [hW2]; exact below_new _
      have hX2 : W2.heap[w2.heap.size]? = some (.cells #[.slice p2 0 k2, .bool true, .int .i64 U, .int .i64 t'] 29 (0, 0)) := by rw [hW2]; exact heap_alloc_new _ _
      have H3 : Hid (Wt w W2 g 1 1 d ∧ Ht w W2 (h + 1) h (.slice p 0 c) [] false 0 (t : Int) ∧ BsAt W2 (.slice p2 0 k2) [] ∧ W2.heap[w2.heap.size]? = some (.cells #[.slice p2 0 k2, .bool true, .int .i64 U, .int .i64 t'] 29 (0, 0))) := ⟨H2.out.1.below hb2, H2.out.2.1.below hb2, H2.out.2.2.below hb2, hX2⟩
      rw [← hW2]
      clear hW2 hb2 hX2 H2 c0 c1 c2 l0
      refine Calls.mono (hB1.out _ U t' _ H3.out.2.2.1 ⟨u3, u4⟩ ht10') ?_
      intro r w3 hp3
      obtain ⟨p3, k3, rfl, hat3, hfr3, hb3⟩ := hpostF_none hp3
      obtain ⟨g2, hg2⟩ : ∃ g2, g2 = w2.heap.size := ⟨_, rfl⟩
      rw [← hg2] at H3 ⊢
      have H4 : Hid (Wt w w3 g 1 1 d ∧ Ht w w3 (h + 1) h (.slice p 0 c) [] false 0 (t : Int) ∧ BsAt w3 (.slice p2 0 k2) [] ∧ w3.heap[g2]? = some (.cells #[.slice p2 0 k2, .bool true, .int .i64 U, .int .i64 t'] 29 (0, 0))) := ⟨H3.out.1.below hb3, H3.out.2.1.below hb3, H3.out.2.2.1.below hb3, box_below H3.out.2.2.2 hb3⟩
      clear hp3 hat3 hfr3 hb3 hg2 H3
      obtain ⟨c0, c1, c2, l0⟩ := H4.out.1.cells
      obtain ⟨i0, i1, i2, i3, l2⟩ := four_cells H4.out.2.2.2
      go_wp2_with fail
      obtain ⟨W3, hW3⟩ : ∃ W3, W3 = w3.alloc (.cells #[.slice p3 0 k3, .bool true, .int .i64 U, .int .i64 t'] 29) := ⟨_, rfl⟩
      have hb3 : Below w3.heap.size w3 W3 := by rw [hW3]; exact below_new _
      have hX3 : W3.heap[w3.heap.size]? = some (.cells #[.slice p3 0 k3, .bool true, .int .i64 U, .int .i64 t'] 29 (0, 0)) := by rw [hW3]; exact heap_alloc_new _ _
      have H5 : Hid (Wt w W3 g 1 1 d ∧ Ht w W3 (h + 1) h (.slice p 0 c) [] false 0 (t : Int) ∧ BsAt W3 (.slice p2 0 k2) [] ∧ W3.heap[g2]? = some (.cells #[.slice p2 0 k2, .bool true, .int .i64 U, .int .i64 t'] 29 (0, 0)) ∧ W3.heap[w3.heap.size]? = some (.cells #[.slice p3 0 k3, .bool true, .int .i64 U, .int .i64 t'] 29 (0, 0))) := ⟨H4.out.1.below hb3, H4.out.2.1.below hb3, H4.out.2.2.1.below hb3, box_below H4.out.2.2.2 hb3, hX3⟩
      rw [← hW3]
      clear hW3 hb3 hX3 H4 c0 c1 c2 l0 i0 i1 i2 i3 l2
      refine Calls.mono (hB2.out _ U t' _ H5.out.2.2.1 ⟨u3, u4⟩ ht10') ?_
      intro r w4 hp4
      obtain ⟨p4, k4, rfl, hat4, hfr4, hb4⟩ := hpostF_none hp4
      obtain ⟨g3, hg3⟩ : ∃ g3, g3 = w3.heap.size := ⟨_, rfl⟩
      rw [← hg3] at H5 ⊢
      have hsz : h + 1 ≤ W3.heap.size := H5.out.2.1.cells.2.2.2.2
      have H6 : Hid (Wt w w4 g 1 1 d ∧ Ht w w4 (h + 1) h (.slice p 0 c) [] false 0 (t : Int) ∧ BsAt w4 (.slice p4 0 k4) [] ∧ (∀ b, Value.ownBlock (.slice p4 0 k4) = some b → h + 1 ≤ b) ∧ w4.heap[g2]? = some (.cells #[.slice p2 0 k2, .bool true, .int .i64 U, .int .i64 t'] 29 (0, 0)) ∧ w4.heap[g3]? = some (.cells #[.slice p3 0 k3, .bool true, .int .i64 U, .int .i64 t'] 29 (0, 0))) := ⟨H5.out.1.below hb4, H5.out.2.1.below hb4, hat4, fun b hb => Nat.le_trans hsz (hfr4 b hb), box_below H5.out.2.2.2.1 hb4, box_below H5.out.2.2.2.2 hb4⟩
      clear hp4 hat4 hfr4 hb4 hg3 H5 hsz
      obtain ⟨e0, e1, e2, e3, l1⟩ := H6.out.2.1.cells
      obtain ⟨q0, q1, q2, q3⟩ := H6.out.2.1.froz
      obtain ⟨i0, i1, i2, i3, l2⟩ := four_cells H6.out.2.2.2.2.1
      obtain ⟨j0, j1, j2, j3, l3⟩ := four_cells H6.out.2.2.2.2.2
      go_wp2
      go_roundw
      case rel =>
        refine ⟨k + 1, U, U - N, p4, k4, by simp, rfl, rfl, by omega, by have := HF.out.2.2.2; omega, by omega, .inr ⟨by omega, ?_⟩, (H6.out.1.set hgh H6.out.2.1.2.2.2.1 _ _ _ _).below (below_new _), ?_⟩
        · rw [show k + 1 - 1 = k by omega, ← HF.out.1, HF.out.2.2.1]; omega
        · have e : min (k + 1) 10 = t' := by rw [HF.out.2.1, HF.out.1]; omega
          rw [e]
          exact (H6.out.2.1.set H6.out.2.2.1 H6.out.2.2.2.1 false 0 t').below (below_new _)
      case measure => simp [intOf]; omega
    · have hkd : ¬ ((k : Int) ≤ (pk : Int)) := by omega
      have hge : ¬ (L < (d : Int)) := by
        rcases hLk with ⟨_, _⟩ | ⟨_, rfl⟩
        · omega
        · have := (hold_bd P.out.2.2 (min (k - 1) 10)).1; omega
      have hge' : (d : Int) ≤ L := by omega
      have HB : Hid (_ ∧ _) := ⟨hG.1, hG.1.2.2⟩
      clear hG hLk
      obtain ⟨c0, c1, c2, l0⟩ := HB.out.1.cells
      go_wp2_with fail
      refine (P.out.2.1 _).mono ?_
      rintro e w' ⟨rfl, rfl⟩
      go_wp2
      go_ret
      exact ⟨rfl, HB.out.2⟩
end Go.Proofs.Ytofnhdkcadoiiaa.Walks
