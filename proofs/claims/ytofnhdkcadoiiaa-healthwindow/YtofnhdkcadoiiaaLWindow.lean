/-
  HealthWindow: only the last outcomes count. Condition: the lists can be read.
-/
import Derived.Test.YtofnhdkcadoiiaaRegion
import Derived.Deep.CutRange
import Derived.WalkKit
import Derived.ProofKit
import Derived.Handy
import Derived.LoopTactic
import Derived.Below
import Derived.Laws.BitsAllLaws
import Derived.RegionTactic
import Derived.Deep.RegionHeld3
import Derived.Deep.DrawnRows
import Derived.Deep.AppendLies
import Derived.Laws.OwnMore
import Derived.Deep.Onto
import Derived.Deep.QuietTactic
import Derived.BigQuiet
namespace Go.Proofs.Ytofnhdkcadoiiaa.Walks
open Go.RowKit
set_option linter.unusedVariables false
set_option linter.unusedSimpArgs false
attribute [local go_sem ↓] Go.wp_at_zero Go.wp_at_succ

theorem BsAt.dropk {w : World} {a : Addr} {c : Nat} {l : List Bool} (h : BsAt w (.slice (some a) l.length c) l) (k : Nat) (hk : k < l.length) : BsAt w (.slice (some ⟨a.block, a.off + k, none⟩) (l.length - k) (c - k)) (l.drop k) := by
  obtain ⟨a', cap, he, hc, hm, h1 | ⟨b, off, rfl, h2, h3⟩⟩ := h
  · omega
  · cases he
    have hlen : (l.drop k).length = l.length - k := by simp
    unfold BsAt
    rw [hlen]
    refine ⟨_, _, rfl, by omega, by omega, .inr ⟨b, off + k, rfl, h2, fun i hi => ?_⟩⟩
    rw [bcells_len, hlen] at hi
    have := h3 (i + k) (by rw [bcells_len]; omega)
    rw [show off + k + i = off + (i + k) by omega, this]
    simp [bcells, Nat.add_comm]

theorem BsAt.cell {w : World} {b off n c : Nat} {l : List Bool} (h : BsAt w (.slice (some ⟨b, off, none⟩) n c) l) (i : Nat) (hi : i < l.length) : w.cell? ⟨b, off + i, none⟩ = some (.bool l[i]) ∧ b < w.heap.size := by
  obtain ⟨a', cap, he, hc, hm, h1 | ⟨b', off', rfl, h2, h3⟩⟩ := h
  · omega
  · cases he
    exact ⟨by rw [h3 i (by rw [bcells_len]; exact hi)]; exact bcells_at l i hi, h2⟩

/-- The Marks end with the first k of L, and there is room for the rest of it. -/
def Ends (n : Nat) (L N : List Bool) (k : Nat) : Prop := ∃ pre, N = pre ++ L.take k ∧ pre.length + k ≤ n

theorem ends_zero {n : Nat} {L N : List Bool} (h : N.length ≤ n) : Ends n L N 0 := ⟨N, by simp, h⟩

theorem ends_len {n : Nat} {L N : List Bool} {k : Nat} (hL : L.length = n) (h : Ends n L N k) : N.length ≤ n := by
  obtain ⟨pre, rfl, h⟩ := h
  simp
  omega

theorem ends_next {n : Nat} {L N : List Bool} {k : Nat} (hL : L.length = n) (h : Ends n L N k) (hk : k < n) : Ends n L (lastN n N (L[k]'(by omega))) (k + 1) := by
  obtain ⟨pre, rfl, h⟩ := h
  have hkL : k < L.length := by omega
  have hlen : (pre ++ L.take k).length = pre.length + k := by simp; omega
  have ht : L.take (k + 1) = L.take k ++ [L[k]] := List.take_succ_eq_append_getElem hkL
  unfold lastN
  rw [hlen]
  split
  · refine ⟨pre, by rw [ht, List.append_assoc], ?_⟩
    omega
  · cases pre with
    | nil => simp at *; omega
    | cons a pre => exact ⟨pre, by rw [ht]; simp, by simp at h; omega⟩

theorem ends_all {n : Nat} {L N : List Bool} (hL : L.length = n) (h : Ends n L N n) : N = L := by
  obtain ⟨pre, rfl, h⟩ := h
  have : pre = [] := List.length_eq_zero_iff.1 (by omega)
  rw [this, List.nil_append, ← hL, List.take_length]

theorem note_step {n f d : Nat} {L N : List Bool} {k : Nat} (hw : WatOk n f d) (hL : L.length = n) (h : Ends n L N k) (hk : k < n) (oo : Bool) (hoo : oo = decide (k + 1 = n ∧ f ≤ cntT L)) :
    ∃ N', noteO n f d N false 0 0 (L[k]'(by omega)) 3 (decide (k + 1 = n)) = ((N', oo, (if oo then 3 + holdV d 0 else 0), (if oo then 1 else 0)), oo, 0) ∧ N'.length ≤ n ∧ (k + 1 < n → Ends n L N' (k + 1)) ∧ (k + 1 = n → N' = if oo then [] else L) := by
  have hN := ends_len hL h
  have hE := ends_next hL h hk
  have hh : HOk n N.length false 0 0 := ⟨by omega, by omega, by omega, .inr rfl⟩
  by_cases hkn : k + 1 = n
  · rw [hkn] at hE
    have hall := ends_all hL hE
    by_cases hf : f ≤ cntT L
    · have ho : oo = true := by rw [hoo]; exact decide_eq_true ⟨hkn, hf⟩
      subst ho
      refine ⟨[], ?_, Nat.zero_le _, fun h => by omega, fun _ => rfl⟩
      rw [decide_eq_true hkn, note_out hw (by omega) hh (by rw [hall]; omega)]
      rfl
    · have ho : oo = false := by rw [hoo]; exact decide_eq_false fun h => hf h.2
      subst ho
      refine ⟨L, ?_, by omega, fun h => by omega, fun _ => rfl⟩
      rw [note_stay hw (by omega) hh (.inr (.inr (by rw [hall]; omega))), hall]
      rfl
  · have ho : oo = false := by rw [hoo]; exact decide_eq_false fun h => hkn h.1
    subst ho
    refine ⟨_, ?_, ends_len hL hE, fun _ => hE, fun h => absurd h hkn⟩
    rw [decide_eq_false hkn, note_stay hw (by omega) hh (.inr (.inl rfl))]
    rfl

set_option maxHeartbeats 32000000 in
set_option maxRecDepth 100000 in
theorem window_law (x0 : Int) (h0 : (Lit.int .i64 x0).wf = true) (x1 : Int) (h1 : (Lit.int .i64 x1).wf = true) (va : Value) (la : List Bool) {w : World} (hva : BsAt w va la) (hla : la.length ≤ 140737488355328) (vb : Value) (lb : List Bool) (hvb : BsAt w vb lb) (hlb : lb.length ≤ 140737488355328) (vc : Value) (lc : List Bool) (hvc : BsAt w vc lc) (hlc : lc.length ≤ 140737488355328) :
    Calls Try.prog 7 #[.int .i64 x0, .int .i64 x1, va, vb, vc] w fun e w' => e = .returned (.bool true) ∧ Below w.heap.size w w' := by
  obtain ⟨n, f, d, hn, hf, hd, hnp, hwat⟩ := watch_some x0 x1 5 h0 h1 (by decide)
  have hok : WatOk n f d := ⟨by omega, by omega, by omega⟩
  obtain ⟨pA, cA, rfl, _, hcA, paA⟩ := hva.parts
  obtain ⟨pB, cB, rfl, _, hcB, paB⟩ := hvb.parts
  obtain ⟨pC, cC, rfl, hlC, hcC, paC⟩ := hvc.parts
  unfold maxLen at hcA hcB hcC
  have hK1 : ∀ W, Calls Try.prog 9 #[watV n f d] W fun r w' => r = .returned (.int .i64 0) ∧ Below W.heap.size W w' := fun W => by
    have := check_any n f d W
    rwa [wat_yes hok] at this
  have hK2 : ∀ W, Calls Try.prog 9 #[watV 0 0 0] W fun r w' => r = .returned (.int .i64 2) ∧ Below W.heap.size W w' := fun W => by
    have := check_any 0 0 0 W
    rwa [wat_no (by decide)] at this
  have P : Hid (_ ∧ _ ∧ _ ∧ _ ∧ _ ∧ _ ∧ _) := ⟨hwat, hok, hK1, hK2, paA, paB, hvc⟩
  clear hwat hok h0 h1 paA paB paC hva hvb hvc hnp hK1 hK2
  by_cases hshort : lc.length < n
  · have hsI : (lc.length : Int) < (n : Int) := by omega
    go_enter Try.func7, Try.ntmps7
    go_wp2_with fail
    refine (P.out.1 _).mono ?_
    rintro r w1 ⟨rfl, hb1⟩
    have HB1 : Hid (_ ∧ True) := ⟨hb1, trivial⟩
    clear hb1
    go_wp2_with fail
    obtain ⟨W1, hW1⟩ : ∃ W1, W1 = w1.alloc (.cells #[.int .i64 n, .int .i64 f, .int .i64 d] 23) := ⟨_, rfl⟩
    have HB2 : Hid (Below w.heap.size w W1 ∧ True) := ⟨by rw [hW1]; exact HB1.out.1.alloc HB1.out.1.size _, trivial⟩
    rw [← hW1]
    clear hW1
    refine (P.out.2.2.1 _).mono ?_
    rintro r w3 ⟨rfl, hb3⟩
    have HB3 : Hid (Below w.heap.size w w3 ∧ True) := ⟨HB2.out.1.trans (hb3.mono HB2.out.1.size), trivial⟩
    clear hb3
    go_wp2_with fail
    refine (P.out.2.2.2.1 _).mono ?_
    rintro r w4 ⟨rfl, hb4⟩
    have HB4 : Hid (Below w.heap.size w w4 ∧ True) := ⟨HB3.out.1.trans (hb4.mono HB3.out.1.size), trivial⟩
    clear hb4
    go_wp2
    go_ret
    exact ⟨rfl, HB4.out.1⟩
  · have hsI : ¬ ((lc.length : Int) < (n : Int)) := by omega
    obtain ⟨K, hK⟩ : ∃ K, K = lc.length - n := ⟨_, rfl⟩
    have hKI : (lc.length : Int) - (n : Int) = (K : Int) := by omega
    obtain ⟨bC, oC, rfl⟩ : ∃ bC oC, pC = some ⟨bC, oC, none⟩ := by
      obtain ⟨a, ca, he, _, _, h | ⟨b, off, rfl, _⟩⟩ := P.out.2.2.2.2.2.2
      · omega
      · cases he; exact ⟨b, off, rfl⟩
    have hLat : BsAt w (.slice (some ⟨bC, oC + K, none⟩) n (cC - K)) (lc.drop K) := by
      have := P.out.2.2.2.2.2.2.dropk K (by omega)
      rwa [show lc.length - K = n by omega] at this
    have hLlen : (lc.drop K).length = n := by simp; omega
    have hck : ¬ (cC = K) := by omega
    have hck2 : K ≤ lc.length := by omega
    have hlk : lc.length - K = n := by omega
    have HL : Hid (_ ∧ _ ∧ K = lc.length - n) := ⟨hLat, hLlen, hK⟩
    have HS : Hid _ := hlk
    clear hLat hLlen hK hlk
    go_enter Try.func7, Try.ntmps7
    go_wp2_with fail
    refine (P.out.1 _).mono ?_
    rintro r w1 ⟨rfl, hb1⟩
    obtain ⟨W1, hW1⟩ : ∃ W1, W1 = ((w1.alloc (.cells #[.int .i64 n, .int .i64 f, .int .i64 d] 23)).alloc (.cells #[.slice none 0 0, .bool false, .int .i64 0, .int .i64 0] 29)).alloc (.cells #[.slice none 0 0, .bool false, .int .i64 0, .int .i64 0] 29) := ⟨_, rfl⟩
    have hbW : Below w1.heap.size w1 W1 := by rw [hW1]; exact (((Below.refl _ _).alloc (Nat.le_refl _) _).alloc (by simp) _).alloc (by simp; omega) _
    have hs1 := hb1.size
    have HG : Hid (Wt w W1 w1.heap.size n f d ∧ Ht w W1 (w1.heap.size + 1 + 1 + 1) (w1.heap.size + 1) (.slice none 0 0) [] false 0 0 ∧ Ht w W1 (w1.heap.size + 1 + 1 + 1) (w1.heap.size + 1 + 1) (.slice none 0 0) [] false 0 0) :=
      ⟨⟨by rw [hW1]; exact heap_old _ _ (heap_old _ _ (heap_alloc_new _ _)), hs1, hb1.trans (hbW.mono hs1)⟩, ⟨by rw [hW1]; exact heap_old _ _ (heap_second _ _ _), bsAt_nil _, (by intro b h; cases h), by omega, by omega⟩, by rw [hW1]; exact heap_third _ _ _ _, bsAt_nil _, (by intro b h; cases h), by omega, by omega⟩
    have HW1 : Hid _ := hW1
    clear hb1 hbW hW1 hs1
    go_wp2
    rw [← HW1.out]
    clear HW1
    obtain ⟨g, hg⟩ : ∃ g, g = w1.heap.size := ⟨_, rfl⟩
    rw [← hg] at HG ⊢
    clear hg
    obtain ⟨h1, hh1⟩ : ∃ h1, h1 = g + 1 := ⟨_, rfl⟩
    rw [← hh1] at HG ⊢
    obtain ⟨h2, hh2⟩ : ∃ h2, h2 = h1 + 1 := ⟨_, rfl⟩
    rw [← hh2] at HG ⊢
    have hg1 : g ≠ h1 := by omega
    have hg2 : g ≠ h2 := by omega
    have h12 : h1 ≠ h2 := by omega
    have h12' : h1 < h2 + 1 := by omega
    clear hh1 hh2
    rw [HS.out]
    obtain ⟨oL, hoL⟩ : ∃ oL, oL = oC + K := ⟨_, rfl⟩
    obtain ⟨cL, hcL⟩ : ∃ cL, cL = cC - K := ⟨_, rfl⟩
    obtain ⟨L, hL⟩ : ∃ L, L = lc.drop K := ⟨_, rfl⟩
    have HC : Hid (BsAt w (.slice (some ⟨bC, oL, none⟩) n cL) L ∧ L.length = n) := ⟨by rw [hoL, hcL, hL]; exact HL.out.1, by rw [hL]; exact HL.out.2.1⟩
    rw [← hoL, ← hcL]
    have hcL63 : cL ≤ 2 ^ 63 - 1 := by omega
    clear hoL hcL hL HL HS hKI hck hck2 hsI hshort
    go_loopw [15] (fun i wr => ∃ (k j : Nat) (q : Option Addr) (e : Nat) (M : List Bool), i = .int .i64 k ∧ k ≤ la.length ∧ k ≤ 30 ∧ j = M.length ∧ j ≤ n ∧ Wt w wr g n f d ∧ Ht w wr (h2 + 1) h1 (.slice q j e) M false 0 0 ∧ Ht w wr (h2 + 1) h2 (.slice none 0 0) [] false 0 0) (fun i _ => la.length - (intOf i).toNat)
    case atStart => exact ⟨0, 0, none, 0, [], rfl, Nat.zero_le _, Nat.zero_le _, rfl, Nat.zero_le _, HG.out.1, HG.out.2.1, HG.out.2.2⟩
    case round =>
      obtain ⟨k, j, q, e, M, rfl, hk, hk30, hjM, hjn2, hG, hH1, hH2⟩ := hrel
      have HGk : Hid (Wt w wr g n f d ∧ Ht w wr (h2 + 1) h1 (.slice q j e) M false 0 0 ∧ Ht w wr (h2 + 1) h2 (.slice none 0 0) [] false 0 0 ∧ j = M.length) := ⟨hG, hH1, hH2, hjM⟩
      clear hG hH1 hH2 hjM
      go_upto_region 8 with fail
      go_cut [62] from 55 to 61 (fun s wx => s = .bool (decide (k < la.length ∧ k < 30)) ∧ wr = wx)
      case first =>
        by_cases hlt : k < la.length
        · have hkI : (k : Int) < (la.length : Int) := by omega
          by_cases hlt2 : k < 30
          · have hkJ : (k : Int) < 30 := by omega
            have hd : Hid (decide (k < la.length ∧ k < 30) = true) := decide_eq_true ⟨hlt, hlt2⟩
            go_wp2_with fail
            go_meet
            exact ⟨by rw [hd.out], rfl⟩
          · have hkJ : ¬ ((k : Int) < 30) := by omega
            have hd : Hid (decide (k < la.length ∧ k < 30) = false) := decide_eq_false fun h => hlt2 h.2
            go_wp2_with fail
            go_meet
            exact ⟨by rw [hd.out], rfl⟩
        · have hkI : ¬ ((k : Int) < (la.length : Int)) := by omega
          have hd : Hid (decide (k < la.length ∧ k < 30) = false) := decide_eq_false fun h => hlt h.1
          go_wp2_with fail
          go_meet
          exact ⟨by rw [hd.out], rfl⟩
      case rest =>
      obtain ⟨rfl, rfl⟩ := hcut
      by_cases hlt : k < la.length ∧ k < 30
      · rw [decide_eq_true hlt]
        obtain ⟨hlt, hlt2⟩ := hlt
        obtain ⟨c0, c1, c2, l0⟩ := HGk.out.1.cells
        obtain ⟨e0, e1, e2, e3, l1⟩ := HGk.out.2.1.cells
        have hsz : h2 + 1 ≤ wr.heap.size := HGk.out.2.2.1.cells.2.2.2.2
        obtain ⟨bb, ob, rfl, hb1, hc⟩ := P.out.2.2.2.2.1 k hlt
        have hc' := (HGk.out.1.2.2.cell (p := ⟨bb, ob + k, none⟩) hb1).trans hc
        have hbl : bb < wr.heap.size := Nat.lt_of_lt_of_le hb1 HGk.out.1.2.2.size
        have hkI : (k : Int) < (la.length : Int) := by omega
        generalize la[k] = y at hc'
        obtain ⟨j4, hj4⟩ : ∃ j4, j4 = (lastN n M y).length := ⟨_, rfl⟩
        have hM2 : (M.length : Int) ≤ n := by rw [← HGk.out.2.2.2]; omega
        have hj4n : j4 ≤ n := by have := lastN_len y hM2 (by omega); omega
        have hD := note_at (note_stay (x := y) (now := 3) (may := false) P.out.2.1 (by omega) (⟨hM2, by omega, by omega, .inr rfl⟩ : HOk n M.length false 0 0) (.inr (.inl rfl))) HGk.out.2.1.2.1 (by omega) j4 hj4
        have HD : Hid (_ ∧ _) := ⟨hD, hj4⟩
        clear hD hj4 hM2 hc hb1
        go_upto_region 10 with fail
        go_cut [16, 17, 18] from 65 to 75 (fun x s e wx => ∃ gy p4 c4, x = .pointer (some ⟨gy, 0, none⟩) ∧ s = .bool false ∧ e = .int .i64 0 ∧ HEnd wr (.slice p4 j4 c4) (lastN n M y) false 0 0 gy wx)
        case first =>
          go_region_held3 (fun W => W.cell? ⟨g, 0, none⟩ = some (.int .i64 n) ∧ W.cell? ⟨g, 1, none⟩ = some (.int .i64 f) ∧ W.cell? ⟨g, 2, none⟩ = some (.int .i64 d) ∧ W.cell? ⟨h1, 0, none⟩ = some (.slice q j e) ∧ W.cell? ⟨h1, 1, none⟩ = some (.bool false) ∧ W.cell? ⟨h1, 2, none⟩ = some (.int .i64 0) ∧ W.cell? ⟨h1, 3, none⟩ = some (.int .i64 0) ∧ W.cell? ⟨bb, ob + k, none⟩ = some (.bool y) ∧ Below wr.heap.size wr W) (first | exact held8 c0 c1 c2 e0 e1 e2 e3 hc' ((Below.refl _ _).drew) | exact held8 c0 c1 c2 e0 e1 e2 e3 hc' (((Below.refl _ _).drew).alloc (by simp) _) | exact held8 c0 c1 c2 e0 e1 e2 e3 hc' hq5.out.2.2.2 | exact held8 c0 c1 c2 e0 e1 e2 e3 hc' (hq5.out.2.2.2.alloc hq5.out.2.2.2.size _) | exact held8 c0 c1 c2 e0 e1 e2 e3 hc' (((Below.refl _ _).alloc (Nat.le_refl _) _).drew) | exact held8 c0 c1 c2 e0 e1 e2 e3 hc' (below_set4 hq5.out.2.2.2 (Nat.le_refl _))) (first | (go_at_call 12; refine (HD.out.1 _ ?hbW).mono ?_; (case hbW => first | assumption | exact (Below.refl _ _).drew | exact ((Below.refl _ _).drew).alloc (by simp) _ | exact ((Below.refl _ _).alloc (Nat.le_refl _) _).drew); rintro r w5 ⟨p4, c4, rfl, hq5, hz5, hc5, hf5⟩))
          all_goals
            clear hz5 hc5 hf5
            go_wp2_with fail
            go_meet
            refine ⟨_, p4, c4, rfl, rfl, rfl, ?_⟩
            first
            | with_reducible exact endA hq5.out.1 hq5.out.2.1 (Nat.le_refl _) hq5.out.2.2.2
            | with_reducible exact endB (by first | exact heap_alloc_new _ _ | exact heap_newd _ _) hq5.out.1 hq5.out.2.1 hq5.out.2.2.1 hq5.out.2.2.2
        case rest =>
        obtain ⟨gy, p4, c4, rfl, rfl, rfl, hE⟩ := hcut
        obtain ⟨W6, hW6⟩ : ∃ W6, W6 = wc := ⟨_, rfl⟩
        subst hW6
        have H6 : Hid (Wt w W6 g n f d ∧ Ht w W6 (h2 + 1) h1 (.slice q j e) M false 0 0 ∧ Ht w W6 (h2 + 1) h2 (.slice none 0 0) [] false 0 0 ∧ BsAt W6 (.slice p4 j4 c4) (lastN n M y) ∧ (∀ b, Value.ownBlock (.slice p4 j4 c4) = some b → h2 + 1 ≤ b)) := ⟨HGk.out.1.below hE.2.2.2.2, HGk.out.2.1.below hE.2.2.2.2, HGk.out.2.2.1.below hE.2.2.2.2, hE.2.1, fun b hb => Nat.le_trans hsz (hE.2.2.1 b hb)⟩
        obtain ⟨y0, y1, y2, y3, ly⟩ := four_cells hE.1
        have hgy : h1 ≠ gy := by have := hE.2.2.2.1; omega
        clear hE hc' hbl c0 c1 c2 l0 e0 e1 e2 e3 l1 hsz HGk
        obtain ⟨e0, e1, e2, e3, l1⟩ := H6.out.2.1.cells
        obtain ⟨f0, f1, f2, f3⟩ := H6.out.2.1.froz
        go_wp2
        go_roundw
        case rel => exact ⟨k + 1, j4, p4, c4, lastN n M y, by simp, hlt, hlt2, HD.out.2, hj4n, H6.out.1.set hg1 H6.out.2.1.2.2.2.1 _ _ _ _, H6.out.2.1.set H6.out.2.2.2.1 H6.out.2.2.2.2 false 0 0, H6.out.2.2.1.other (Ne.symm h12) h12' _ _ _ _⟩
        case measure => simp [intOf]; omega
      · rw [decide_eq_false hlt]
        clear hlt hk hk30
        have HGl : Hid _ := HGk.out
        clear HGk
        have hjn := hjn2
        clear hjn2
        go_wp2
        go_loopw [19] (fun i wr => ∃ (k j' : Nat) (q' : Option Addr) (e' : Nat) (M' : List Bool), i = .int .i64 k ∧ k ≤ lb.length ∧ k ≤ 30 ∧ j' = M'.length ∧ j' ≤ n ∧ Wt w wr g n f d ∧ Ht w wr (h2 + 1) h1 (.slice q j e) M false 0 0 ∧ Ht w wr (h2 + 1) h2 (.slice q' j' e') M' false 0 0) (fun i _ => lb.length - (intOf i).toNat)
        case atStart => exact ⟨0, 0, none, 0, [], rfl, Nat.zero_le _, Nat.zero_le _, rfl, Nat.zero_le _, HGl.out.1, HGl.out.2.1, HGl.out.2.2.1⟩
        case round =>
          obtain ⟨k, j', q', e', M', rfl, hk, hk30, hjM, hjn2, hG, hH1, hH2⟩ := hrel
          have HGk : Hid (Wt w wr g n f d ∧ Ht w wr (h2 + 1) h1 (.slice q j e) M false 0 0 ∧ Ht w wr (h2 + 1) h2 (.slice q' j' e') M' false 0 0 ∧ j' = M'.length) := ⟨hG, hH1, hH2, hjM⟩
          clear hG hH1 hH2 hjM
          go_upto_region 15 with fail
          go_cut [86] from 79 to 85 (fun s wx => s = .bool (decide (k < lb.length ∧ k < 30)) ∧ wr = wx)
          case first =>
            by_cases hlt : k < lb.length
            · have hkI : (k : Int) < (lb.length : Int) := by omega
              by_cases hlt2 : k < 30
              · have hkJ : (k : Int) < 30 := by omega
                have hd : Hid (decide (k < lb.length ∧ k < 30) = true) := decide_eq_true ⟨hlt, hlt2⟩
                go_wp2_with fail
                go_meet
                exact ⟨by rw [hd.out], rfl⟩
              · have hkJ : ¬ ((k : Int) < 30) := by omega
                have hd : Hid (decide (k < lb.length ∧ k < 30) = false) := decide_eq_false fun h => hlt2 h.2
                go_wp2_with fail
                go_meet
                exact ⟨by rw [hd.out], rfl⟩
            · have hkI : ¬ ((k : Int) < (lb.length : Int)) := by omega
              have hd : Hid (decide (k < lb.length ∧ k < 30) = false) := decide_eq_false fun h => hlt h.1
              go_wp2_with fail
              go_meet
              exact ⟨by rw [hd.out], rfl⟩
          case rest =>
          obtain ⟨rfl, rfl⟩ := hcut
          by_cases hlt : k < lb.length ∧ k < 30
          · rw [decide_eq_true hlt]
            obtain ⟨hlt, hlt2⟩ := hlt
            obtain ⟨c0, c1, c2, l0⟩ := HGk.out.1.cells
            obtain ⟨e0, e1, e2, e3, l1⟩ := HGk.out.2.2.1.cells
            have hsz : h2 + 1 ≤ wr.heap.size := HGk.out.2.2.1.cells.2.2.2.2
            obtain ⟨bb, ob, rfl, hb1, hc⟩ := P.out.2.2.2.2.2.1 k hlt
            have hc' := (HGk.out.1.2.2.cell (p := ⟨bb, ob + k, none⟩) hb1).trans hc
            have hbl : bb < wr.heap.size := Nat.lt_of_lt_of_le hb1 HGk.out.1.2.2.size
            have hkI : (k : Int) < (lb.length : Int) := by omega
            generalize lb[k] = y at hc'
            obtain ⟨j4, hj4⟩ : ∃ j4, j4 = (lastN n M' y).length := ⟨_, rfl⟩
            have hM2 : (M'.length : Int) ≤ n := by rw [← HGk.out.2.2.2]; omega
            have hj4n : j4 ≤ n := by have := lastN_len y hM2 (by omega); omega
            have hD := note_at (note_stay (x := y) (now := 3) (may := false) P.out.2.1 (by omega) (⟨hM2, by omega, by omega, .inr rfl⟩ : HOk n M'.length false 0 0) (.inr (.inl rfl))) HGk.out.2.2.1.2.1 (by omega) j4 hj4
            have HD : Hid (_ ∧ _) := ⟨hD, hj4⟩
            clear hD hj4 hM2 hc hb1
            go_upto_region 17 with fail
            go_cut [20, 21, 22] from 89 to 99 (fun x s e wx => ∃ gy p4 c4, x = .pointer (some ⟨gy, 0, none⟩) ∧ s = .bool false ∧ e = .int .i64 0 ∧ HEnd wr (.slice p4 j4 c4) (lastN n M' y) false 0 0 gy wx)
            case first =>
              go_region_held3 (fun W => W.cell? ⟨g, 0, none⟩ = some (.int .i64 n) ∧ W.cell? ⟨g, 1, none⟩ = some (.int .i64 f) ∧ W.cell? ⟨g, 2, none⟩ = some (.int .i64 d) ∧ W.cell? ⟨h2, 0, none⟩ = some (.slice q' j' e') ∧ W.cell? ⟨h2, 1, none⟩ = some (.bool false) ∧ W.cell? ⟨h2, 2, none⟩ = some (.int .i64 0) ∧ W.cell? ⟨h2, 3, none⟩ = some (.int .i64 0) ∧ W.cell? ⟨bb, ob + k, none⟩ = some (.bool y) ∧ Below wr.heap.size wr W) (first | exact held8 c0 c1 c2 e0 e1 e2 e3 hc' ((Below.refl _ _).drew) | exact held8 c0 c1 c2 e0 e1 e2 e3 hc' (((Below.refl _ _).drew).alloc (by simp) _) | exact held8 c0 c1 c2 e0 e1 e2 e3 hc' hq5.out.2.2.2 | exact held8 c0 c1 c2 e0 e1 e2 e3 hc' (hq5.out.2.2.2.alloc hq5.out.2.2.2.size _) | exact held8 c0 c1 c2 e0 e1 e2 e3 hc' (((Below.refl _ _).alloc (Nat.le_refl _) _).drew) | exact held8 c0 c1 c2 e0 e1 e2 e3 hc' (below_set4 hq5.out.2.2.2 (Nat.le_refl _))) (first | (go_at_call 12; refine (HD.out.1 _ ?hbW).mono ?_; (case hbW => first | assumption | exact (Below.refl _ _).drew | exact ((Below.refl _ _).drew).alloc (by simp) _ | exact ((Below.refl _ _).alloc (Nat.le_refl _) _).drew); rintro r w5 ⟨p4, c4, rfl, hq5, hz5, hc5, hf5⟩))
              all_goals
                clear hz5 hc5 hf5
                go_wp2_with fail
                go_meet
                refine ⟨_, p4, c4, rfl, rfl, rfl, ?_⟩
                first
                | with_reducible exact endA hq5.out.1 hq5.out.2.1 (Nat.le_refl _) hq5.out.2.2.2
                | with_reducible exact endB (by first | exact heap_alloc_new _ _ | exact heap_newd _ _) hq5.out.1 hq5.out.2.1 hq5.out.2.2.1 hq5.out.2.2.2
            case rest =>
            obtain ⟨gy, p4, c4, rfl, rfl, rfl, hE⟩ := hcut
            obtain ⟨W6, hW6⟩ : ∃ W6, W6 = wc := ⟨_, rfl⟩
            subst hW6
            have H6 : Hid (Wt w W6 g n f d ∧ Ht w W6 (h2 + 1) h1 (.slice q j e) M false 0 0 ∧ Ht w W6 (h2 + 1) h2 (.slice q' j' e') M' false 0 0 ∧ BsAt W6 (.slice p4 j4 c4) (lastN n M' y) ∧ (∀ b, Value.ownBlock (.slice p4 j4 c4) = some b → h2 + 1 ≤ b)) := ⟨HGk.out.1.below hE.2.2.2.2, HGk.out.2.1.below hE.2.2.2.2, HGk.out.2.2.1.below hE.2.2.2.2, hE.2.1, fun b hb => Nat.le_trans hsz (hE.2.2.1 b hb)⟩
            obtain ⟨y0, y1, y2, y3, ly⟩ := four_cells hE.1
            have hgy : h2 ≠ gy := by have := hE.2.2.2.1; omega
            clear hE hc' hbl c0 c1 c2 l0 e0 e1 e2 e3 l1 hsz HGk
            obtain ⟨e0, e1, e2, e3, l1⟩ := H6.out.2.2.1.cells
            obtain ⟨f0, f1, f2, f3⟩ := H6.out.2.2.1.froz
            go_wp2
            go_roundw
            case rel => exact ⟨k + 1, j4, p4, c4, lastN n M' y, by simp, hlt, hlt2, HD.out.2, hj4n, H6.out.1.set hg2 H6.out.2.2.1.2.2.2.1 _ _ _ _, H6.out.2.1.other h12 (Nat.lt_succ_self _) _ _ _ _, H6.out.2.2.1.set H6.out.2.2.2.1 H6.out.2.2.2.2 false 0 0⟩
            case measure => simp [intOf]; omega
          · rw [decide_eq_false hlt]
            clear hlt hk hk30
            have hjn' := hjn2
            clear hjn2
            have hjM : j = M.length := HGl.out.2.2.2
            have hjM' : j' = M'.length := HGk.out.2.2.2
            have HJ : Hid (_ ∧ _) := ⟨hjM, hjM'⟩
            clear HGl hjM hjM'
            go_wp2
            go_loopw [23] (fun i wr => ∃ (k j1 j2 : Nat) (q1 q2 : Option Addr) (e1 e2 : Nat) (N1 N2 : List Bool) (o : Bool) (u t : Int), i = .int .i64 k ∧ k ≤ n ∧ j1 = N1.length ∧ j2 = N2.length ∧ o = decide (k = n ∧ f ≤ cntT L) ∧ u = (if o then 3 + holdV d 0 else 0) ∧ t = (if o then 1 else 0) ∧ (k < n → Ends n L N1 k ∧ Ends n L N2 k) ∧ (k = n → N1 = (if o then [] else L) ∧ N2 = (if o then [] else L)) ∧ Wt w wr g n f d ∧ Ht w wr (h2 + 1) h1 (.slice q1 j1 e1) N1 o u t ∧ Ht w wr (h2 + 1) h2 (.slice q2 j2 e2) N2 o u t) (fun i _ => n - (intOf i).toNat)
            case atStart => exact ⟨0, j, j', q, q', e, e', M, M', false, 0, 0, rfl, Nat.zero_le _, HJ.out.1, HJ.out.2, (decide_eq_false (by omega)).symm, rfl, rfl, fun _ => ⟨ends_zero (by have := HJ.out.1; omega), ends_zero (by have := HJ.out.2; omega)⟩, fun h => absurd h (by omega), HGk.out.1, HGk.out.2.1, HGk.out.2.2.1⟩
            case round =>
              clear HGk HJ
              obtain ⟨k, j1, j2, q1, q2, e1', e2', N1, N2, o, u, t, rfl, hkn, hj1, hj2, ho, hu, ht, hE1, hE2, hG, hH1, hH2⟩ := hrel
              by_cases hlt : k < n
              · have ho' : o = false := by rw [ho]; exact decide_eq_false fun h => by omega
                subst ho'
                obtain rfl : u = 0 := hu
                obtain rfl : t = 0 := ht
                have hkI : (k : Int) < (n : Int) := by omega
                have HGi : Hid (Wt w wr g n f d ∧ Ht w wr (h2 + 1) h1 (.slice q1 j1 e1') N1 false 0 0 ∧ Ht w wr (h2 + 1) h2 (.slice q2 j2 e2') N2 false 0 0) := ⟨hG, hH1, hH2⟩
                obtain ⟨oo, hoo⟩ : ∃ oo, oo = decide (k + 1 = n ∧ f ≤ cntT L) := ⟨_, rfl⟩
                obtain ⟨N1', s1, s2, s3, s4⟩ := note_step P.out.2.1 HC.out.2 (hE1 hlt).1 hlt oo hoo
                obtain ⟨N2', r1, r2, r3, r4⟩ := note_step P.out.2.1 HC.out.2 (hE1 hlt).2 hlt oo hoo
                have hl1 : N1.length ≤ 1000 := by have := ends_len HC.out.2 (hE1 hlt).1; omega
                have hl2 : N2.length ≤ 1000 := by have := ends_len HC.out.2 (hE1 hlt).2; omega
                clear hG hH1 hH2 hE1 hE2 ho hj1 hj2
                have hltL : k < L.length := by rw [HC.out.2]; exact hlt
                obtain ⟨hcL, hbC⟩ := HC.out.1.cell k hltL
                have hc' := (HGi.out.1.2.2.cell (p := ⟨bC, oL + k, none⟩) hbC).trans hcL
                have hbl : bC < wr.heap.size := Nat.lt_of_lt_of_le hbC HGi.out.1.2.2.size
                obtain ⟨mb, hmb⟩ : ∃ mb, mb = decide (k + 1 = n) := ⟨_, rfl⟩
                have hmbW : ((k : Int) == IntKind.i64.wrap ((n : Int) - 1)) = decide (k + 1 = n) := by
                  rw [IntKind.wrap_i64, show ((n : Int) - 1 + 9223372036854775808) % 18446744073709551616 - 9223372036854775808 = (n : Int) - 1 by omega]
                  by_cases h : k + 1 = n
                  · rw [decide_eq_true h]; simp; omega
                  · rw [decide_eq_false h]; simp; omega
                rw [← hmbW] at s1 r1
                clear hmbW
                have hmbI : ((k : Int) == (n : Int) - 1) = mb := by
                  rw [hmb]
                  by_cases h : k + 1 = n
                  · rw [decide_eq_true h]; simp; omega
                  · rw [decide_eq_false h]; simp; omega
                have hmbD : mb = false ∨ mb = true := by cases mb <;> simp
                obtain ⟨U, hU⟩ : ∃ U, U = (if oo then 3 + holdV d 0 else 0) := ⟨_, rfl⟩
                obtain ⟨T, hT⟩ : ∃ T : Int, T = (if oo then 1 else 0) := ⟨_, rfl⟩
                rw [← hU, ← hT] at s1 r1
                obtain ⟨j3, hj3⟩ : ∃ j3, j3 = N1'.length := ⟨_, rfl⟩
                obtain ⟨j4, hj4⟩ : ∃ j4, j4 = N2'.length := ⟨_, rfl⟩
                have hD1 := note_at s1 HGi.out.2.1.2.1 hl1 j3 hj3
                have HD1 : Hid (_ ∧ j3 = N1'.length ∧ j4 = N2'.length ∧ oo = decide (k + 1 = n ∧ f ≤ cntT L) ∧ U = (if oo then 3 + holdV d 0 else 0) ∧ T = (if oo then 1 else 0)) := ⟨hD1, hj3, hj4, hoo, hU, hT⟩
                have HS : Hid (_ ∧ _ ∧ _ ∧ _ ∧ _ ∧ _) := ⟨s3, s4, r3, r4, r1, hl2⟩
                clear hD1 hj3 hj4 hoo hU hT s1 s2 s3 s4 r1 r2 r3 r4 hl1 hl2 hmb hcL
                generalize L[k] = y at hc' HD1 HS
                obtain ⟨c0, c1, c2, l0⟩ := HGi.out.1.cells
                obtain ⟨e0, e1, e2, e3, l1⟩ := HGi.out.2.1.cells
                have hsz : h2 + 1 ≤ wr.heap.size := HGi.out.2.2.cells.2.2.2.2
                go_upto_region 24 with fail
                go_cut [24, 25, 26] from 109 to 124 (fun x s e wx => ∃ gy p4 c4, x = .pointer (some ⟨gy, 0, none⟩) ∧ s = .bool oo ∧ e = .int .i64 0 ∧ HEnd wr (.slice p4 j3 c4) N1' oo U T gy wx)
                case first =>
                  go_region_held3 (fun W => W.cell? ⟨g, 0, none⟩ = some (.int .i64 n) ∧ W.cell? ⟨g, 1, none⟩ = some (.int .i64 f) ∧ W.cell? ⟨g, 2, none⟩ = some (.int .i64 d) ∧ W.cell? ⟨h1, 0, none⟩ = some (.slice q1 j1 e1') ∧ W.cell? ⟨h1, 1, none⟩ = some (.bool false) ∧ W.cell? ⟨h1, 2, none⟩ = some (.int .i64 0) ∧ W.cell? ⟨h1, 3, none⟩ = some (.int .i64 0) ∧ W.cell? ⟨bC, oL + k, none⟩ = some (.bool y) ∧ Below wr.heap.size wr W) (first | exact held8 c0 c1 c2 e0 e1 e2 e3 hc' ((Below.refl _ _).drew) | exact held8 c0 c1 c2 e0 e1 e2 e3 hc' (((Below.refl _ _).drew).alloc (by simp) _) | exact held8 c0 c1 c2 e0 e1 e2 e3 hc' hq5.out.2.2.2 | exact held8 c0 c1 c2 e0 e1 e2 e3 hc' (hq5.out.2.2.2.alloc hq5.out.2.2.2.size _) | exact held8 c0 c1 c2 e0 e1 e2 e3 hc' (((Below.refl _ _).alloc (Nat.le_refl _) _).drew) | exact held8 c0 c1 c2 e0 e1 e2 e3 hc' (below_set4 hq5.out.2.2.2 (Nat.le_refl _))) (first | (go_at_call 12; refine (HD1.out.1 _ ?hbW).mono ?_; (case hbW => first | assumption | exact (Below.refl _ _).drew | exact ((Below.refl _ _).drew).alloc (by simp) _ | exact ((Below.refl _ _).alloc (Nat.le_refl _) _).drew); rintro r w5 ⟨p4, c4, rfl, hq5, hz5, hc5, hf5⟩))
                  all_goals
                    clear hz5 hc5 hf5
                    go_wp2_with fail
                    go_meet
                    refine ⟨_, p4, c4, rfl, rfl, rfl, ?_⟩
                    first
                    | with_reducible exact endA hq5.out.1 hq5.out.2.1 (Nat.le_refl _) hq5.out.2.2.2
                    | with_reducible exact endB (by first | exact heap_alloc_new _ _ | exact heap_newd _ _) hq5.out.1 hq5.out.2.1 hq5.out.2.2.1 hq5.out.2.2.2
                case rest =>
                obtain ⟨gx, p3, c3, rfl, rfl, rfl, hE⟩ := hcut
                obtain ⟨W3, hW3⟩ : ∃ W3, W3 = wc := ⟨_, rfl⟩
                subst hW3
                have H3 : Hid (Wt w W3 g n f d ∧ Ht w W3 (h2 + 1) h1 (.slice q1 j1 e1') N1 false 0 0 ∧ Ht w W3 (h2 + 1) h2 (.slice q2 j2 e2') N2 false 0 0 ∧ BsAt W3 (.slice p3 j3 c3) N1' ∧ (∀ b, Value.ownBlock (.slice p3 j3 c3) = some b → h2 + 1 ≤ b) ∧ W3.heap[gx]? = some (.cells #[.slice p3 j3 c3, .bool oo, .int .i64 U, .int .i64 T] 29 (0, 0)) ∧ h2 + 1 ≤ gx) := ⟨HGi.out.1.below hE.2.2.2.2, HGi.out.2.1.below hE.2.2.2.2, HGi.out.2.2.below hE.2.2.2.2, hE.2.1, fun b hb => Nat.le_trans hsz (hE.2.2.1 b hb), hE.1, Nat.le_trans hsz hE.2.2.2.1⟩
                have hc3 := (hE.2.2.2.2.cell (p := ⟨bC, oL + k, none⟩) hbl).trans hc'
                clear hE hc' hbl hsz c0 c1 c2 l0 e0 e1 e2 e3 l1 HGi
                have hc' := hc3
                clear hc3
                have hbl : bC < W3.heap.size := Nat.lt_of_lt_of_le hbC H3.out.1.2.2.size
                obtain ⟨c0, c1, c2, l0⟩ := H3.out.1.cells
                obtain ⟨e0, e1, e2, e3, l1⟩ := H3.out.2.2.1.cells
                have hsz : h2 + 1 ≤ W3.heap.size := l1
                have hD2 := note_at HS.out.2.2.2.2.1 H3.out.2.2.1.2.1 HS.out.2.2.2.2.2 j4 HD1.out.2.2.1
                have HD2 : Hid (_ ∧ True) := ⟨hD2, trivial⟩
                clear hD2
                go_upto_region 25 with fail
                go_cut [27, 28, 29] from 125 to 140 (fun x s e wx => ∃ gy p4 c4, x = .pointer (some ⟨gy, 0, none⟩) ∧ s = .bool oo ∧ e = .int .i64 0 ∧ HEnd W3 (.slice p4 j4 c4) N2' oo U T gy wx)
                case first =>
                  go_region_held3 (fun W => W.cell? ⟨g, 0, none⟩ = some (.int .i64 n) ∧ W.cell? ⟨g, 1, none⟩ = some (.int .i64 f) ∧ W.cell? ⟨g, 2, none⟩ = some (.int .i64 d) ∧ W.cell? ⟨h2, 0, none⟩ = some (.slice q2 j2 e2') ∧ W.cell? ⟨h2, 1, none⟩ = some (.bool false) ∧ W.cell? ⟨h2, 2, none⟩ = some (.int .i64 0) ∧ W.cell? ⟨h2, 3, none⟩ = some (.int .i64 0) ∧ W.cell? ⟨bC, oL + k, none⟩ = some (.bool y) ∧ Below W3.heap.size W3 W) (first | exact held8 c0 c1 c2 e0 e1 e2 e3 hc' ((Below.refl _ _).drew) | exact held8 c0 c1 c2 e0 e1 e2 e3 hc' (((Below.refl _ _).drew).alloc (by simp) _) | exact held8 c0 c1 c2 e0 e1 e2 e3 hc' hq5.out.2.2.2 | exact held8 c0 c1 c2 e0 e1 e2 e3 hc' (hq5.out.2.2.2.alloc hq5.out.2.2.2.size _) | exact held8 c0 c1 c2 e0 e1 e2 e3 hc' (((Below.refl _ _).alloc (Nat.le_refl _) _).drew) | exact held8 c0 c1 c2 e0 e1 e2 e3 hc' (below_set4 hq5.out.2.2.2 (Nat.le_refl _))) (first | (go_at_call 12; refine (HD2.out.1 _ ?hbW).mono ?_; (case hbW => first | assumption | exact (Below.refl _ _).drew | exact ((Below.refl _ _).drew).alloc (by simp) _ | exact ((Below.refl _ _).alloc (Nat.le_refl _) _).drew); rintro r w5 ⟨p4, c4, rfl, hq5, hz5, hc5, hf5⟩))
                  all_goals
                    clear hz5 hc5 hf5
                    go_wp2_with fail
                    go_meet
                    refine ⟨_, p4, c4, rfl, rfl, rfl, ?_⟩
                    first
                    | with_reducible exact endA hq5.out.1 hq5.out.2.1 (Nat.le_refl _) hq5.out.2.2.2
                    | with_reducible exact endB (by first | exact heap_alloc_new _ _ | exact heap_newd _ _) hq5.out.1 hq5.out.2.1 hq5.out.2.2.1 hq5.out.2.2.2
                case rest =>
                obtain ⟨gy, p4, c4, rfl, rfl, rfl, hE⟩ := hcut
                obtain ⟨W6, hW6⟩ : ∃ W6, W6 = wc := ⟨_, rfl⟩
                subst hW6
                have H6 : Hid (Wt w W6 g n f d ∧ Ht w W6 (h2 + 1) h1 (.slice q1 j1 e1') N1 false 0 0 ∧ Ht w W6 (h2 + 1) h2 (.slice q2 j2 e2') N2 false 0 0 ∧ BsAt W6 (.slice p3 j3 c3) N1' ∧ (∀ b, Value.ownBlock (.slice p3 j3 c3) = some b → h2 + 1 ≤ b) ∧ BsAt W6 (.slice p4 j4 c4) N2' ∧ (∀ b, Value.ownBlock (.slice p4 j4 c4) = some b → h2 + 1 ≤ b)) := ⟨H3.out.1.below hE.2.2.2.2, H3.out.2.1.below hE.2.2.2.2, H3.out.2.2.1.below hE.2.2.2.2, H3.out.2.2.2.1.below hE.2.2.2.2, H3.out.2.2.2.2.1, hE.2.1, fun b hb => Nat.le_trans hsz (hE.2.2.1 b hb)⟩
                obtain ⟨x0', x1', x2', x3', lx⟩ := four_cells (box_below H3.out.2.2.2.2.2.1 hE.2.2.2.2)
                obtain ⟨y0, y1, y2, y3, ly⟩ := four_cells hE.1
                have hgy : h2 + 1 ≤ gy := Nat.le_trans hsz hE.2.2.2.1
                have hgx : h2 + 1 ≤ gx := H3.out.2.2.2.2.2.2
                clear hE hc' hbl c0 c1 c2 l0 e0 e1 e2 e3 l1 hsz H3 HD2
                go_upto_region 26 with fail
                go_cut [158] from 141 to 157 (fun s wx => s = .bool false ∧ W6 = wx)
                case first =>
                  rcases hmbD with hm | hm
                  · rw [hm] at hmbI
                    go_wp2_with fail
                    go_meet
                    exact ⟨rfl, rfl⟩
                  · rw [hm] at hmbI
                    go_wp2_with fail
                    go_meet
                    exact ⟨rfl, rfl⟩
                case rest =>
                obtain ⟨rfl, rfl⟩ := hcut
                clear hmbI hmbD
                obtain ⟨a0, a1, a2, a3, lla⟩ := H6.out.2.1.cells
                obtain ⟨fa0, fa1, fa2, fa3⟩ := H6.out.2.1.froz
                obtain ⟨b0, b1, b2, b3, llb⟩ := H6.out.2.2.1.cells
                obtain ⟨fb0, fb1, fb2, fb3⟩ := H6.out.2.2.1.froz
                have n1 : h1 ≠ gx := by omega
                have n2 : h1 ≠ gy := by omega
                have n3 : h2 ≠ gx := by omega
                have n4 : h2 ≠ gy := by omega
                have relOf : ∀ W7, W7 = set4 (set4 W6 h1 (.slice p3 j3 c3) (.bool oo) (.int .i64 U) (.int .i64 T)) h2 (.slice p4 j4 c4) (.bool oo) (.int .i64 U) (.int .i64 T) → Wt w W7 g n f d ∧ Ht w W7 (h2 + 1) h1 (.slice p3 j3 c3) N1' oo U T ∧ Ht w W7 (h2 + 1) h2 (.slice p4 j4 c4) N2' oo U T := by
                  rintro W7 rfl
                  have z1 := H6.out.1.set hg1 H6.out.2.1.2.2.2.1 (.slice p3 j3 c3) (.bool oo) (.int .i64 U) (.int .i64 T)
                  have z2 := H6.out.2.1.set H6.out.2.2.2.1 H6.out.2.2.2.2.1 oo U T
                  have z3 := H6.out.2.2.1.other (Ne.symm h12) h12' (.slice p3 j3 c3) (.bool oo) (.int .i64 U) (.int .i64 T)
                  refine ⟨z1.set hg2 z3.2.2.2.1 _ _ _ _, z2.other h12 (Nat.lt_succ_self _) _ _ _ _, z3.set ?_ H6.out.2.2.2.2.2.2 oo U T⟩
                  exact H6.out.2.2.2.2.2.1.keep (by rw [set4_size]; exact Nat.le_refl _) (fun b hb => set4_other (by have := H6.out.2.2.2.2.2.2 b hb; omega))
                have RO : Hid _ := relOf
                clear relOf
                go_wp2
                go_roundw
                case rel => exact ⟨k + 1, j3, j4, p3, p4, c3, c4, N1', N2', oo, U, T, by simp, hlt, HD1.out.2.1, HD1.out.2.2.1, HD1.out.2.2.2.1, HD1.out.2.2.2.2.1, HD1.out.2.2.2.2.2, fun h => ⟨HS.out.1 h, HS.out.2.2.1 h⟩, fun h => ⟨HS.out.2.1 h, HS.out.2.2.2.1 h⟩, (RO.out _ rfl).1, (RO.out _ rfl).2.1, (RO.out _ rfl).2.2⟩
                case measure => simp [intOf]; omega
              · obtain rfl : k = n := by omega
                have hkI : ¬ ((k : Int) < (k : Int)) := by omega
                obtain ⟨hN1, hN2⟩ := hE2 rfl
                have hjj : j1 = j2 := by rw [hj1, hj2, hN1, hN2]
                subst hjj
                have hofin : o = decide ((f : Int) ≤ (cntT L : Int)) := by rw [ho]; exact decide_eq_decide.2 ⟨fun h => by omega, fun h => ⟨rfl, by omega⟩⟩
                have hjn4 : o = false → j1 = k := fun h => by rw [hj1, hN1, h]; exact HC.out.2
                have hcnt16 : cntT L ≤ 16 := by have := cntT_le L; have := HC.out.2; omega
                have HGi : Hid (Wt w wr g k f d ∧ Ht w wr (h2 + 1) h1 (.slice q1 j1 e1') N1 o u t ∧ Ht w wr (h2 + 1) h2 (.slice q2 j1 e2') N2 o u t) := ⟨hG, hH1, hH2⟩
                have HO : Hid (o = decide ((f : Int) ≤ (cntT L : Int)) ∧ (o = false → j1 = k) ∧ cntT L ≤ 16) := ⟨hofin, hjn4, hcnt16⟩
                clear hG hH1 hH2 hE1 hE2 ho hu ht hj1 hj2 hN1 hN2 hofin hjn4 hcnt16
                go_wp2
                go_loopw [30, 31] (fun c i wx => ∃ (m z : Nat), i = .int .i64 m ∧ c = .int .i64 z ∧ z = cntT (L.take m) ∧ m ≤ k ∧ wr = wx) (fun _ i _ => k - (intOf i).toNat)
                case atStart => exact ⟨0, 0, rfl, rfl, rfl, Nat.zero_le _, rfl⟩
                case round =>
                  obtain ⟨m, z, rfl, rfl, hz, hm, rfl⟩ := hrel
                  have hzm : z ≤ 16 := by
                    have h1 := cntT_le (L.take m)
                    have h2 : (L.take m).length ≤ m := by rw [List.length_take]; omega
                    omega
                  by_cases hlt2 : m < k
                  · have hmI : (m : Int) < (k : Int) := by omega
                    have hltL : m < L.length := by rw [HC.out.2]; exact hlt2
                    obtain ⟨hcL, hbC⟩ := HC.out.1.cell m hltL
                    have hc' := (HGi.out.1.2.2.cell (p := ⟨bC, oL + m, none⟩) hbC).trans hcL
                    have hbl : bC < wr.heap.size := Nat.lt_of_lt_of_le hbC HGi.out.1.2.2.size
                    have hs : cntT (L.take (m + 1)) = z + (if L[m] then 1 else 0) := by rw [List.take_succ_eq_append_getElem hltL, cntT_snoc, ← hz]
                    cases hx : L[m]
                    · rw [hx] at hc' hs
                      have HZ : Hid _ := hs
                      clear hs hx hcL hbC hz
                      go_wp2
                      go_roundw
                      case rel => exact ⟨m + 1, z, by simp, rfl, by rw [HZ.out]; rfl, hlt2, trivial⟩
                      case measure => simp [intOf]; omega
                    · rw [hx] at hc' hs
                      have HZ : Hid _ := hs
                      clear hs hx hcL hbC hz
                      go_wp2
                      go_roundw
                      case rel => exact ⟨m + 1, z + 1, by simp, by simp, by rw [HZ.out]; rfl, hlt2, trivial⟩
                      case measure => simp [intOf]; omega
                  · obtain rfl : m = k := by omega
                    have hmI : ¬ ((m : Int) < (m : Int)) := by omega
                    have hzL : z = cntT L := by rw [hz, ← HC.out.2, List.take_length]
                    have HB : Hid (_ ∧ True) := ⟨HGi.out.1.2.2, trivial⟩
                    obtain ⟨c0, c1, c2, l0⟩ := HGi.out.1.cells
                    obtain ⟨a0, a1, a2, a3, lla⟩ := HGi.out.2.1.cells
                    obtain ⟨b0, b1, b2, b3, llb⟩ := HGi.out.2.2.cells
                    have hoz : o = decide ((f : Int) ≤ (z : Int)) := by rw [hzL]; exact HO.out.1
                    have hjo := HO.out.2.1
                    clear hz hzL HGi HO
                    cases o
                    · have hfz : ¬ ((f : Int) ≤ (z : Int)) := fun h => by rw [decide_eq_true h] at hoz; cases hoz
                      obtain rfl : j1 = m := hjo rfl
                      clear hoz hjo
                      go_wp2
                      go_ret
                      exact ⟨rfl, HB.out.1⟩
                    · have hfz : (f : Int) ≤ (z : Int) := by
                        rcases Decidable.em ((f : Int) ≤ (z : Int)) with h | h
                        · exact h
                        · rw [decide_eq_false h] at hoz; cases hoz
                      clear hoz hjo
                      go_wp2
                      go_ret
                      exact ⟨rfl, HB.out.1⟩
end Go.Proofs.Ytofnhdkcadoiiaa.Walks
