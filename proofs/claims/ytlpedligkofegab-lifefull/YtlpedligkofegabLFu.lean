/-
  LifeFull: when a book is full, what was asked is answered still, and nothing new is. No condition.
-/
import Derived.Test.YtlpedligkofegabLB
import Derived.Test.YtlpedligkofegabKC
import Derived.WalkKit
import Derived.ProofKit
import Derived.Handy
import Derived.LoopTactic
import Derived.Below
import Derived.Laws.BitsAllLaws
import Derived.RegionTactic
import Derived.Deep.RegionHeld3
import Derived.Deep.DrawnRows
import Derived.Deep.AppendLies
import Derived.Laws.OwnMore
import Derived.Deep.Onto
import Derived.Deep.QuietTactic
import Derived.BigQuiet
namespace Go.Proofs.Ytlpedligkofegab.Walks
open Go.RowKit
set_option linter.unusedVariables false
set_option linter.unusedSimpArgs false
attribute [local go_sem ↓] Go.wp_at_zero Go.wp_at_succ

def lifeN (j : Nat) : Lf := ((j : Int), 1, 1 + (j : Int) % 8, 0, 0, 0)

def ansN (j : Nat) : Int := if j < 12 then 0 else 7

def reqN (j : Nat) : Rq := ((j : Int), 1, (j : Int) % 12, 1 + (j : Int) % 8, ansN j)

def fullL (k : Nat) : List Lf := (List.range (min k 12)).map lifeN

def fullR (k : Nat) : List Rq := (List.range k).map reqN

theorem fullR_len (k : Nat) : (fullR k).length = k := by simp [fullR]

theorem fullR_next (k : Nat) : fullR (k + 1) = fullR k ++ [reqN k] := by simp [fullR, List.range_succ]

theorem fullR_ids {k : Nat} : ∀ r ∈ fullR k, 0 ≤ r.1 ∧ r.1 < (k : Int) := by
  intro r hr
  obtain ⟨j, hj, rfl⟩ := List.mem_map.1 hr
  have := List.mem_range.1 hj
  show (0 : Int) ≤ (j : Int) ∧ (j : Int) < (k : Int)
  omega

theorem join_last {L : List Lf} {n w : Int} (h : ∀ x ∈ L, x.1 < n) (hn : 0 ≤ n ∧ n ≤ 11) (hw : 1 ≤ w ∧ w ≤ 8) : joinO L n w = (L ++ [(n, 1, w, 0, 0, 0)], 0) := by
  have hp : pos L n = L.length := List.findIdx_eq_length.2 fun x hx => by
    have := h x hx
    simp
    omega
  unfold joinO
  rw [if_neg (by omega), here_no (fun x hx e => by have := h x hx; omega), if_neg (by decide), hp, insAt_end]

theorem full_join {k : Nat} (hr : (fullL k).Pairwise (fun a b => a.1 < b.1)) : joinO (fullL k) ((k : Int) % 12) (1 + (k : Int) % 8) = (fullL (k + 1), ansN k) := by
  by_cases hk : k < 12
  · have e1 : (k : Int) % 12 = (k : Int) := by omega
    rw [e1, join_last _ (by omega) (by omega)]
    · unfold fullL ansN
      rw [if_pos hk, show min (k + 1) 12 = k + 1 by omega, show min k 12 = k by omega, List.range_succ, List.map_append]
      rfl
    · intro x hx
      unfold fullL at hx
      obtain ⟨j, hj, rfl⟩ := List.mem_map.1 hx
      have := List.mem_range.1 hj
      show (j : Int) < (k : Int)
      omega
  · have hm : lifeN (k % 12) ∈ fullL k := List.mem_map.2 ⟨k % 12, List.mem_range.2 (by omega), rfl⟩
    rw [join_busy hr hm (by show ((k % 12 : Nat) : Int) = _; omega) (show ¬ (1 : Int) = 4 by decide) (by omega) (by omega)]
    unfold fullL ansN
    rw [if_neg hk, show min (k + 1) 12 = 12 by omega, show min k 12 = 12 by omega]

theorem full_ok : ∀ k : Nat, k ≤ 100 → BkOk (fullL k) (fullR k) ∧ (k < 100 → askO (fullL k) (fullR k) ((k : Int), 1, (k : Int) % 12, 1 + (k : Int) % 8, 0) 3 4 = ((fullL (k + 1), fullR (k + 1)), ansN k, true, 0))
  | k, hk => by
    have hb : BkOk (fullL k) (fullR k) := by
      cases k with
      | zero => exact ⟨⟨by decide, by simp [fullL], .nil⟩, by decide, by simp [fullR], .nil⟩
      | succ j =>
        obtain ⟨h1, h2⟩ := full_ok j (by omega)
        have hne : ∀ q ∈ fullR j, q.1 ≠ ((j : Int), (1 : Int), (j : Int) % 12, 1 + (j : Int) % 8, (0 : Int)).1 := fun q hq e => by have := fullR_ids q hq; have e : q.1 = (j : Int) := e; omega
        have hrq : RqOk ((j : Int), 1, (j : Int) % 12, 1 + (j : Int) % 8, 0) := ⟨(show (0 : Int) ≤ (j : Int) ∧ (j : Int) ≤ 1048576 by omega), .inl rfl⟩
        have ht := (take_is h1 (by rw [fullR_len]; omega) hrq hne (u := 3 + 4) (by decide)).1
        have h3 := h2 (by omega)
        rw [ask_new h1 (by rw [fullR_len]; omega) ⟨hrq, by decide, by decide⟩ hne] at h3
        injection h3 with h4
        rw [h4] at ht
        exact ht
    refine ⟨hb, fun hlt => ?_⟩
    have hne : ∀ q ∈ fullR k, q.1 ≠ ((k : Int), (1 : Int), (k : Int) % 12, 1 + (k : Int) % 8, (0 : Int)).1 := fun q hq e => by have := fullR_ids q hq; have e : q.1 = (k : Int) := e; omega
    have hrq : RqOk ((k : Int), 1, (k : Int) % 12, 1 + (k : Int) % 8, 0) := ⟨(show (0 : Int) ≤ (k : Int) ∧ (k : Int) ≤ 1048576 by omega), .inl rfl⟩
    rw [ask_new hb (by rw [fullR_len]; omega) ⟨hrq, by decide, by decide⟩ hne]
    unfold takeO
    rw [if_pos rfl]
    simp only [full_join hb.1.2.2]
    rw [fullR_next]
    rfl

theorem ask_full {L : List Lf} {R : List Rq} (hb : BkOk L R) (hR : R.length = 100) {r : Rq} {now drain : Int} (ha : AskOk r now drain) (hn : ∀ q ∈ R, q.1 ≠ r.1) : askO L R r now drain = ((L, R), 9, false, 0) := by
  unfold askO
  rw [if_pos hb, if_pos ha, if_neg (old_no hn), if_pos hR]

theorem full_old {k : Nat} (hk : k < 100) : oldAt (fullR 100) (k : Int) = k := by
  refine findIdx_is (by rw [fullR_len]; exact hk) (fun t ht => ?_) ?_
  · obtain ⟨j, hj, rfl⟩ := List.mem_take_iff_getElem.1 ht
    have : (fullR 100)[j]'(by omega) = reqN j := by simp [fullR]
    rw [this]
    show ((j : Int) == (k : Int)) = false
    rw [beq_eq_false_iff_ne]
    omega
  · have : (fullR 100)[k]'(by rw [fullR_len]; exact hk) = reqN k := by simp [fullR]
    rw [this]
    show ((k : Int) == (k : Int)) = true
    simp

theorem full_again {k : Nat} (hk : k < 100) : askO (fullL 100) (fullR 100) ((k : Int), 2, 0, 0, 0) 3 4 = ((fullL 100, fullR 100), ansN k, false, 0) := by
  have hb := (full_ok 100 (Nat.le_refl _)).1
  have hrq : RqOk ((k : Int), 2, 0, 0, 0) := ⟨(show (0 : Int) ≤ (k : Int) ∧ (k : Int) ≤ 1048576 by omega), .inr rfl⟩
  rw [ask_old hb ⟨hrq, by decide, by decide⟩ (by show oldAt (fullR 100) (k : Int) < _; rw [full_old hk, fullR_len]; exact hk)]
  show ((fullL 100, fullR 100), ((fullR 100)[oldAt (fullR 100) (k : Int)]?.getD (0, 0, 0, 0, 0)).2.2.2.2, false, (0 : Int)) = _
  rw [full_old hk]
  have : (fullR 100)[k]? = some (reqN k) := by simp [fullR, hk]
  rw [this]
  rfl

/-- An answer in a box of its own, behind a region. -/
def FEnd (wr : World) (va vb : Value) (L : List Lf) (R : List Rq) (g : Nat) (wx : World) : Prop := wx.heap[g]? = some (bkO va vb) ∧ BkAt wx va vb L R ∧ Below wr.heap.size wr wx

theorem heap_newd (w : World) (o : Obj) : ((w.alloc o).drew).heap[w.heap.size]? = some o := heap_alloc_new w o

theorem fendA {wr w5 : World} {va vb : Value} {L : List Lf} {R : List Rq} (h : BkAt w5 va vb L R) (hb : Below wr.heap.size wr w5) : FEnd wr va vb L R w5.heap.size (w5.alloc (bkO va vb)) := ⟨heap_alloc_new _ _, h.below (below_new _), hb.alloc hb.size _⟩

theorem BkNew.mono2 {B B' : Nat} {W : World} {va vb : Value} {L : List Lf} {R : List Rq} (h : BkNew B W va vb L R) (hB : B' ≤ B) : BkNew B' W va vb L R := ⟨h.1, fun b e => Nat.le_trans hB (h.2.1 b e), fun b e => Nat.le_trans hB (h.2.2 b e)⟩

theorem fendB {wr W w5 : World} {va vb a b : Value} {L : List Lf} {R : List Rq} (hT : W.heap[wr.heap.size]? = some (bkO a b)) (h : BkNew W.heap.size w5 va vb L R) (hW : Below W.heap.size W w5) (hb : Below wr.heap.size wr w5) : FEnd wr va vb L R wr.heap.size (set2 w5 wr.heap.size va vb) := by
  have hlt := (Array.getElem?_eq_some_iff.1 hT).1
  have ho := bk_out (BkNew.mono2 h (B' := wr.heap.size + 1) hlt) (box_below hT hW) hb (Nat.le_refl _)
  exact ⟨ho.1, ho.2.1.1, ho.2.2⟩

theorem Bx.set2' {w W : World} {g : Nat} {va vb va' vb' : Value} {L L' : List Lf} {R R' : List Rq} (h : Bx w W g va vb L R) (hg : w.heap.size ≤ g) (hn : BkNew (g + 1) W va' vb' L' R') : Bx w (set2 W g va' vb') g va' vb' L' R' := by
  have ho := bk_out hn h.1 h.2.2 hg
  exact ⟨ho.1, ho.2.1.1, ho.2.2⟩

theorem heldF {w w' : World} {a1 a2 : Addr} {v1 v2 : Value} (h1 : w.cell? a1 = some v1) (h2 : w.cell? a2 = some v2) (hb : Below w.heap.size w w') : w'.cell? a1 = some v1 ∧ w'.cell? a2 = some v2 ∧ Below w.heap.size w w' :=
  ⟨(hb.cell (World.block_lt_of_cell? w _ h1)).trans h1, (hb.cell (World.block_lt_of_cell? w _ h2)).trans h2, hb⟩

set_option maxHeartbeats 16000000 in
set_option maxRecDepth 100000 in
theorem full_law (id : Int) (g1 : (Lit.int .i64 id).wf = true) (bk : Int) (g2 : (Lit.int .i64 bk).wf = true) (ag : Int) (g3 : (Lit.int .i64 ag).wf = true) (w : World) :
    Calls Try.prog 6 #[.int .i64 id, .int .i64 bk, .int .i64 ag] w fun e w' => e = .returned (.bool true) ∧ Below w.heap.size w w' := by
  obtain ⟨i1, hi1, q1⟩ := picked_some id 1000 g1 (by omega) (by omega)
  obtain ⟨i2, hi2, q2⟩ := picked_some bk 12 g2 (by omega) (by omega)
  obtain ⟨i3, hi3, q3⟩ := picked_some ag 100 g3 (by omega) (by omega)
  have H : Hid (_ ∧ _ ∧ _) := ⟨q1, q2, q3⟩
  clear q1 q2 q3 g1 g2 g3
  obtain ⟨W0, hW0⟩ : ∃ W0, W0 = w.alloc (bkO (.slice none 0 0) (.slice none 0 0)) := ⟨_, rfl⟩
  have hx0 : Bx w W0 w.heap.size (.slice none 0 0) (.slice none 0 0) [] [] := by rw [hW0]; exact bx_new ⟨rcAt_nil w, rcAt_nil w⟩ (Below.refl _ _)
  have H0 : Hid _ := hx0
  clear hx0
  go_enter Try.func6, Try.ntmps6
  go_wp2
  rw [← hW0]
  clear hW0
  go_loopw [8] (fun i wr => ∃ (k : Nat) (L : List Lf) (R : List Rq) (p : Option Addr) (c : Nat) (q : Option Addr) (m : Nat), i = .int .i64 k ∧ k ≤ 100 ∧ L = fullL k ∧ R = fullR k ∧ Bx w wr w.heap.size (.slice p L.length c) (.slice q R.length m) L R) (fun i _ => 100 - (intOf i).toNat)
  case atStart => exact ⟨0, [], [], none, 0, none, 0, rfl, by omega, rfl, rfl, H0.out⟩
  case round =>
    obtain ⟨k, L, R, p, c, q, m, rfl, hk, hLk, hRk, hB⟩ := hrel
    obtain ⟨b0, b1, blt⟩ := hB.cells
    by_cases hlt : k < 100
    · have hkI : (k : Int) < 100 := by omega
      have hkd : decide ((k : Int) < 100) = true := decide_eq_true hkI
      have hask := (full_ok k (by omega)).2 hlt
      obtain ⟨L', hL'⟩ : ∃ L', L' = fullL (k + 1) := ⟨_, rfl⟩
      obtain ⟨R', hR'⟩ : ∃ R', R' = fullR (k + 1) := ⟨_, rfl⟩
      rw [← hLk, ← hRk, ← hL', ← hR'] at hask
      obtain ⟨an, han⟩ : ∃ an, an = ansN k := ⟨_, rfl⟩
      rw [← han] at hask
      have HA : Hid (_ ∧ _ ∧ _ ∧ _) := ⟨ask_any (.slice p L.length c) (.slice q R.length m) L R k 1 ((k : Int) % 12) (1 + (k : Int) % 8) 0 3 4 wr hB.2.1, hB, hL', hR'⟩
      rw [hask] at HA
      clear hask hL' hR' han hLk hRk hB
      go_wp2_with fail
      refine Calls.mono HA.out.1 ?_
      intro r w2 hp
      obtain ⟨pn, cn, qn, mn, rfl, hn, hb2⟩ := askPost_open hp
      have hx2 := HA.out.2.1.below hb2
      have hs2 := hx2.set2' (Nat.le_refl _) (BkNew.mono2 hn (B' := w.heap.size + 1) blt)
      obtain ⟨b0, b1, blt⟩ := hx2.cells
      obtain ⟨bf0, bf1⟩ := (two_cells hx2.1).2.2.imp (fun e => e) (·.1)
      have HB : Hid _ := hs2.alloc (bkO (.slice pn L'.length cn) (.slice qn R'.length mn))
      clear hp hn hb2 hx2 hs2
      go_wp2
      go_roundw
      case rel => exact ⟨k + 1, L', R', pn, cn, qn, mn, by simp, by omega, HA.out.2.2.1, HA.out.2.2.2, HB.out⟩
      case measure => simp [intOf]; omega
    · have hkI : ¬ (k : Int) < 100 := by omega
      obtain rfl : k = 100 := by omega
      have hok := (full_ok 100 (Nat.le_refl _)).1
      have hag := full_again hi3
      have hlen : (fullR 100).length = 100 := fullR_len 100
      have hful : askO (fullL 100) (fullR 100) (100 + (i1 : Int), 2, (i2 : Int), 0, 0) 3 4 = ((fullL 100, fullR 100), 9, false, 0) := ask_full hok hlen ⟨⟨(show (0 : Int) ≤ 100 + (i1 : Int) ∧ 100 + (i1 : Int) ≤ 1048576 by omega), .inr rfl⟩, by decide, by decide⟩ (fun r hr e => by have := fullR_ids r hr; have e : r.1 = 100 + (i1 : Int) := e; omega)
      rw [← hLk, ← hRk] at hag hful
      rw [← hRk] at hlen
      have HF : Hid (_ ∧ _ ∧ _) := ⟨hful, hag, hB⟩
      have hAsk : ∀ W, Below wr.heap.size wr W → Calls Try.prog 10 #[bkV (.slice p L.length c) (.slice q R.length m), rqV (100 + (i1 : Int)) 2 i2 0 0, .int .i64 3, .int .i64 4] W fun r w' => ∃ p' c' q' m', r = .returned (.tuple #[bkV (.slice p' L.length c') (.slice q' R.length m'), .int .i64 9, .bool false, .int .i64 0]) ∧ Hid (BkNew W.heap.size w' (.slice p' L.length c') (.slice q' R.length m') L R ∧ Below W.heap.size W w' ∧ Below wr.heap.size wr w') ∧ (∀ n, n < W.heap.size → n < w'.heap.size) ∧ (∀ b o, b < W.heap.size → w'.cell? ⟨b, o, none⟩ = W.cell? ⟨b, o, none⟩) ∧ (∀ b o, b < W.heap.size → w'.frozen? ⟨b, o, none⟩ = W.frozen? ⟨b, o, none⟩) := fun W hW => by
        have h1 := ask_any (.slice p L.length c) (.slice q R.length m) L R (100 + (i1 : Int)) 2 i2 0 0 3 4 W (HF.out.2.2.2.1.below hW)
        rw [HF.out.1] at h1
        refine h1.mono ?_
        intro r w' hp
        obtain ⟨p', c', q', m', rfl, hn, hb⟩ := askPost_open hp
        exact ⟨p', c', q', m', rfl, ⟨hn, hb, hW.trans (hb.mono hW.size)⟩, (fun n hn => Nat.lt_of_lt_of_le hn hb.size), (bcell hb).1, (bcell hb).2⟩
      have HAsk : Hid _ := hAsk
      have hw100 : IntKind.i64.wrap (100 + (i1 : Int)) = 100 + (i1 : Int) := by rw [IntKind.wrap_i64]; omega
      clear hok hag hful hlen hLk hRk hB hAsk
      go_upto_region 9 with fail
      go_cut [13, 14, 15, 16] from 49 to 60 (fun x a f e wx => ∃ gg W p' c' q' m', W = wx ∧ x = .pointer (some ⟨gg, 0, none⟩) ∧ a = .int .i64 9 ∧ f = .bool false ∧ e = .int .i64 0 ∧ FEnd wr (.slice p' L.length c') (.slice q' R.length m') L R gg W)
      case first =>
        go_region_held3 (fun W => W.cell? ⟨w.heap.size, 0, none⟩ = some (.slice p L.length c) ∧ W.cell? ⟨w.heap.size, 1, none⟩ = some (.slice q R.length m) ∧ Below wr.heap.size wr W) (first | exact heldF b0 b1 ((Below.refl _ _).drew) | exact heldF b0 b1 (((Below.refl _ _).drew).alloc (by simp) _) | exact heldF b0 b1 hq5.out.2.2 | exact heldF b0 b1 (hq5.out.2.2.alloc hq5.out.2.2.size _) | exact heldF b0 b1 (((Below.refl _ _).alloc (Nat.le_refl _) _).drew) | exact heldF b0 b1 (below_set2 hq5.out.2.2 (Nat.le_refl _))) (first | (go_at_call_of 9 (Value.int .i64 id); refine (H.out.1 _).mono ?_; rintro r w4 ⟨rfl, rfl⟩) | (go_at_call_of 9 (Value.int .i64 bk); refine (H.out.2.1 _).mono ?_; rintro r w4 ⟨rfl, rfl⟩) | (go_at_call 10; refine (HAsk.out _ ?hbW).mono ?_; (case hbW => first | assumption | exact (Below.refl _ _).drew | exact ((Below.refl _ _).drew).alloc (by simp) _ | exact ((Below.refl _ _).alloc (Nat.le_refl _) _).drew); rintro r w5 ⟨p5, c5, q5, m5, rfl, hq5, hz5, hc5, hf5⟩))
        all_goals
          clear hz5 hc5 hf5
          go_wp2_with fail
          go_meet
          refine ⟨_, _, p5, c5, q5, m5, rfl, rfl, rfl, rfl, rfl, ?_⟩
          first
          | with_reducible exact fendA hq5.out.1.1 hq5.out.2.2
          | with_reducible exact fendB (by first | exact heap_newd _ _ | exact heap_alloc_new _ _) hq5.out.1 hq5.out.2.1 hq5.out.2.2
      case rest =>
        obtain ⟨g13, wx, p5, c5, q5, m5, rfl, rfl, rfl, rfl, rfl, hE⟩ := hcut
        have hBx := HF.out.2.2.below hE.2.2
        have HE : Hid (_ ∧ _) := ⟨hBx, hE⟩
        clear b0 b1 blt hE hBx hw100
        obtain ⟨b0, b1, blt⟩ := HE.out.1.cells
        go_wp2_with fail
        refine (H.out.2.2 _).mono ?_
        rintro r w6 ⟨rfl, hw6⟩
        subst hw6
        have HD : Hid _ := ask_any (.slice p L.length c) (.slice q R.length m) L R i3 2 0 0 0 3 4 w6 HE.out.1.2.1
        rw [HF.out.2.1] at HD
        obtain ⟨an, han⟩ : ∃ an, an = ansN i3 := ⟨_, rfl⟩
        rw [← han] at HD
        have HAN : Hid _ := han
        clear han
        go_wp2_with fail
        refine Calls.mono HD.out ?_
        intro r w7 hp
        obtain ⟨p7, c7, q7, m7, rfl, hn7, hb7⟩ := askPost_open hp
        obtain ⟨W7, hW7⟩ : ∃ W7, W7 = w7.alloc (bkO (.slice p7 L.length c7) (.slice q7 R.length m7)) := ⟨_, rfl⟩
        have hb77 : Below w6.heap.size w6 W7 := by rw [hW7]; exact hb7.alloc hb7.size _
        have h7d : Bx w W7 w7.heap.size (.slice p7 L.length c7) (.slice q7 R.length m7) L R := by rw [hW7]; exact bx_new hn7.1 (HE.out.1.2.2.trans (hb7.mono HE.out.1.2.2.size))
        have h7b := HE.out.1.below hb77
        have h7c := box_below HE.out.2.1 hb77
        have h7cc := HE.out.2.2.1.below hb77
        obtain ⟨g18, hg18⟩ : ∃ g18, g18 = w7.heap.size := ⟨_, rfl⟩
        rw [← hg18] at h7d
        have H7 : Hid (_ ∧ _ ∧ _ ∧ _) := ⟨h7d, h7b, h7c, h7cc⟩
        clear hp hn7 hb7 hb77 h7d h7b h7c h7cc b0 b1 blt
        obtain ⟨b0, b1, blt⟩ := H7.out.2.1.cells
        obtain ⟨c0, c1, _, _, clt⟩ := two_cells H7.out.2.2.1
        obtain ⟨d0, d1, dlt⟩ := H7.out.1.cells
        rw [hW7] at b0 b1 blt c0 c1 clt d0 d1 dlt
        rw [hg18] at d0 d1 dlt
        by_cases h12 : i3 < 12
        · have hge : ¬ (12 : Int) ≤ (i3 : Int) := by omega
          obtain rfl : an = 0 := by rw [HAN.out]; exact if_pos h12
          go_wp2_with fail
          rw [← hW7]
          clear hW7 b0 b1 blt c0 c1 clt d0 d1 dlt
          refine Calls.mono (sameBookK _ _ _ _ L R W7 H7.out.2.1.2.1 H7.out.2.2.2) ?_
          rintro r w8 ⟨rfl, hb8⟩
          have H8 : Hid (_ ∧ _) := ⟨H7.out.2.1.below hb8, H7.out.1.below hb8⟩
          clear hb8
          obtain ⟨b0, b1, blt⟩ := H8.out.1.cells
          obtain ⟨d0, d1, dlt⟩ := H8.out.2.cells
          rw [hg18] at d0 d1 dlt
          go_wp2_with fail
          refine Calls.mono (sameBookK _ _ _ _ L R w8 H8.out.1.2.1 H8.out.2.2.1) ?_
          rintro r w9 ⟨rfl, hb9⟩
          have HZ : Hid _ := H8.out.1.2.2.trans (hb9.mono H8.out.1.2.2.size)
          clear hb9
          go_wp2
          go_ret
          exact ⟨rfl, HZ.out⟩
        · have hge : (12 : Int) ≤ (i3 : Int) := by omega
          obtain rfl : an = 7 := by rw [HAN.out]; exact if_neg h12
          go_wp2_with fail
          rw [← hW7]
          clear hW7 b0 b1 blt c0 c1 clt d0 d1 dlt
          refine Calls.mono (sameBookK _ _ _ _ L R W7 H7.out.2.1.2.1 H7.out.2.2.2) ?_
          rintro r w8 ⟨rfl, hb8⟩
          have H8 : Hid (_ ∧ _) := ⟨H7.out.2.1.below hb8, H7.out.1.below hb8⟩
          clear hb8
          obtain ⟨b0, b1, blt⟩ := H8.out.1.cells
          obtain ⟨d0, d1, dlt⟩ := H8.out.2.cells
          rw [hg18] at d0 d1 dlt
          go_wp2_with fail
          refine Calls.mono (sameBookK _ _ _ _ L R w8 H8.out.1.2.1 H8.out.2.2.1) ?_
          rintro r w9 ⟨rfl, hb9⟩
          have HZ : Hid _ := H8.out.1.2.2.trans (hb9.mono H8.out.1.2.2.size)
          clear hb9
          go_wp2
          go_ret
          exact ⟨rfl, HZ.out⟩
end Go.Proofs.Ytlpedligkofegab.Walks
