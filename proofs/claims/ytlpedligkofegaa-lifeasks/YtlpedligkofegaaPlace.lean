/-
  A book at work: where a request, a life stands. Condition: what is read can be read.
-/
import Derived.Test.YtlpedligkofegaaOpn2
import Derived.WalkKit
import Derived.ProofKit
import Derived.Handy
import Derived.LoopTactic
import Derived.Below
import Derived.Laws.BitsAllLaws
import Derived.RegionTactic
import Derived.Deep.RegionHeld3
import Derived.Deep.DrawnRows
import Derived.Deep.AppendLies
import Derived.Laws.OwnMore
import Derived.Deep.Onto
import Derived.Deep.QuietTactic
import Derived.BigQuiet
namespace Go.Proofs.Ytlpedligkofegaa.Walks
open Go.RowKit
set_option linter.unusedVariables false
set_option linter.unusedSimpArgs false
attribute [local go_sem ↓] Go.wp_at_zero Go.wp_at_succ

theorem five_set {w : World} {g : Nat} {a b c d e a' b' c' d' e' : Value} {T : TypeId} (h : w.heap[g]? = some (.cells #[a, b, c, d, e] T (0, 0))) : (((((w.setCell ⟨g, 0, none⟩ a').setCell ⟨g, 1, none⟩ b').setCell ⟨g, 2, none⟩ c').setCell ⟨g, 3, none⟩ d').setCell ⟨g, 4, none⟩ e').heap[g]? = some (.cells #[a', b', c', d', e'] T (0, 0)) :=
  heap_setCell_same _ _ 4 _ _ e' (heap_setCell_same _ _ 3 _ _ d' (heap_setCell_same _ _ 2 _ _ c' (heap_setCell_same _ _ 1 _ _ b' (heap_setCell_same w g 0 _ _ a' h))))

theorem below_set5 {w W : World} {B h : Nat} {a b c d e : Value} (H : Below B w W) (hh : B ≤ h) : Below B w (((((W.setCell ⟨h, 0, none⟩ a).setCell ⟨h, 1, none⟩ b).setCell ⟨h, 2, none⟩ c).setCell ⟨h, 3, none⟩ d).setCell ⟨h, 4, none⟩ e) := ((((H.setCell hh _).setCell hh _).setCell hh _).setCell hh _).setCell hh _

/-- An index, or -1. -/
def idxI (i n : Nat) : Int := if i < n then (i : Int) else -1

theorem findIdx_is {α : Type} {p : α → Bool} {l : List α} {k : Nat} (hk : k < l.length) (h1 : ∀ t ∈ l.take k, p t = false) (h2 : p l[k] = true) : l.findIdx p = k := by
  rw [List.findIdx_eq hk]
  refine ⟨h2, fun j hj => h1 _ ?_⟩
  exact List.mem_take_iff_getElem.2 ⟨j, by omega, rfl⟩

theorem findIdx_no {α : Type} {p : α → Bool} {l : List α} (h : ∀ t ∈ l, p t = false) : l.findIdx p = l.length := List.findIdx_eq_length.2 h

set_option maxHeartbeats 1000000 in
theorem clo_rq (x1 x2 x3 x4 x5 n : Int) (g : Nat) (w : World) (hc : w.cell? ⟨g, 0, none⟩ = some (.int .i64 n)) :
    Calls Try.prog 44 #[rqV x1 x2 x3 x4 x5, .pointer (some ⟨g, 0, none⟩)] w fun r w' => r = .returned (.bool (x1 == n)) ∧ Below w.heap.size w w' := by
  have hlt : g < w.heap.size := World.block_lt_of_cell? w ⟨g, 0, none⟩ hc
  go_enter Try.func44, Try.ntmps44
  go_wp2
  go_ret
  exact ⟨rfl, below_new w⟩

set_option maxHeartbeats 2000000 in
theorem index_rq (v : Value) (l : List Rq) (n : Int) (g : Nat) (w : World) (hv : RsAt w v l) (hc : w.cell? ⟨g, 0, none⟩ = some (.int .i64 n)) :
    Calls Try.prog 43 #[v, .func (.func 44) #[] #[.pointer (some ⟨g, 0, none⟩)]] w fun r w' => r = .returned (.int .i64 (idxI (l.findIdx (fun q => q.1 == n)) l.length)) ∧ Below w.heap.size w w' := by
  obtain ⟨q, hq0⟩ : ∃ q : Rq → Bool, q = (fun q => q.1 == n) := ⟨_, rfl⟩
  obtain ⟨a, ca, rfl, hca, hma, pa⟩ := RsAt.parts hv
  unfold maxLen at hma
  have hglt := World.block_lt_of_cell? w ⟨g, 0, none⟩ hc
  have HQ : Hid (∀ (x1 x2 x3 x4 x5 : Int) (W : World), Below w.heap.size w W → Calls Try.prog 44 #[rqV x1 x2 x3 x4 x5, .pointer (some ⟨g, 0, none⟩)] W fun r w' => r = .returned (.bool (q (x1, x2, x3, x4, x5))) ∧ Below W.heap.size W w') := by
    rw [hq0]
    exact fun x1 x2 x3 x4 x5 W hb => clo_rq x1 x2 x3 x4 x5 n g W ((hb.cell (p := ⟨g, 0, none⟩) hglt).trans hc)
  rw [← hq0]
  obtain ⟨ans, hans⟩ : ∃ ans, ans = idxI (l.findIdx q) l.length := ⟨_, rfl⟩
  rw [← hans]
  have H : Hid _ := hans
  clear hv hans hq0 hc
  go_enter Try.func43, Try.ntmps43
  go_wp2
  go_loopw [8] (fun i wr => ∃ k : Nat, i = .int .i64 k ∧ k ≤ l.length ∧ (∀ t ∈ l.take k, q t = false) ∧ Below w.heap.size w wr) (fun i _ => l.length - (intOf i).toNat)
  case atStart => exact ⟨0, rfl, Nat.zero_le _, by simp, Below.refl _ _⟩
  case round =>
    obtain ⟨k, rfl, hk, hall, hbr⟩ := hrel
    by_cases hlt : k < l.length
    · obtain ⟨b1, o1, rfl, hb1, c1, c2, c3, c4, c5⟩ := pa k hlt
      have e1 := (hbr.cell (p := ⟨b1, o1 + k * 5, none⟩) hb1).trans c1
      have e2 := (hbr.cell (p := ⟨b1, o1 + k * 5 + 1, none⟩) hb1).trans c2
      have e3 := (hbr.cell (p := ⟨b1, o1 + k * 5 + 2, none⟩) hb1).trans c3
      have e4 := (hbr.cell (p := ⟨b1, o1 + k * 5 + 3, none⟩) hb1).trans c4
      have e5 := (hbr.cell (p := ⟨b1, o1 + k * 5 + 4, none⟩) hb1).trans c5
      have HA : Hid (_ ∧ _) := ⟨hall, hbr⟩
      have hkI : (k : Int) < (l.length : Int) := by omega
      have htk : l.take (k + 1) = l.take k ++ [l[k]] := List.take_succ_eq_append_getElem hlt
      have hfs : q l[k] = true → l.findIdx q = k := fun h => findIdx_is hlt hall h
      have hxk : ∃ x, x = l[k] := ⟨_, rfl⟩
      obtain ⟨⟨x1, x2, x3, x4, x5⟩, hxk⟩ := hxk
      rw [← hxk] at e1 e2 e3 e4 e5 htk hfs
      have HX : Hid (_ ∧ _) := ⟨htk, hfs⟩
      clear hall hbr c1 c2 c3 c4 c5 hb1 pa htk hfs hxk
      cases hd : q (x1, x2, x3, x4, x5)
      · go_wp2_with fail
        refine (HQ.out x1 x2 x3 x4 x5 _ HA.out.2).mono ?_
        rw [hd]
        rintro r w2 ⟨rfl, hb2⟩
        have H2 : Hid _ := hb2
        clear hb2
        go_wp2
        go_roundw
        case rel =>
          refine ⟨k + 1, by simp, hlt, fun t ht => ?_, HA.out.2.trans (H2.out.mono HA.out.2.size)⟩
          rw [HX.out.1] at ht
          rcases List.mem_append.1 ht with ht | ht
          · exact HA.out.1 t ht
          · simp at ht
            rw [ht]
            exact hd
        case measure => simp [intOf]; omega
      · go_wp2_with fail
        refine (HQ.out x1 x2 x3 x4 x5 _ HA.out.2).mono ?_
        rw [hd]
        rintro r w2 ⟨rfl, hb2⟩
        have HE : Hid (ans = (k : Int)) := by show ans = _; rw [H.out, HX.out.2 hd]; exact if_pos hlt
        have H2 : Hid _ := hb2
        clear hb2
        go_wp2
        go_ret
        exact ⟨by rw [HE.out]; rfl, HA.out.2.trans (H2.out.mono HA.out.2.size)⟩
    · have HE : Hid (ans = -1) := by
        show ans = _
        rw [H.out, findIdx_no fun t ht => hall t (by rw [List.take_of_length_le (by omega)]; exact ht)]
        exact if_neg (Nat.lt_irrefl _)
      have HB : Hid _ := hbr
      clear hall hbr pa
      go_wp2
      go_ret
      exact ⟨by rw [HE.out]; rfl, HB.out⟩

set_option maxHeartbeats 1000000 in
theorem clo_lf (x1 x2 x3 x4 x5 x6 n : Int) (g : Nat) (w : World) (hc : w.cell? ⟨g, 0, none⟩ = some (.int .i64 n)) :
    Calls Try.prog 54 #[lfV x1 x2 x3 x4 x5 x6, .pointer (some ⟨g, 0, none⟩)] w fun r w' => r = .returned (.bool (decide (n ≤ x1))) ∧ Below w.heap.size w w' := by
  have hlt : g < w.heap.size := World.block_lt_of_cell? w ⟨g, 0, none⟩ hc
  go_enter Try.func54, Try.ntmps54
  go_wp2
  go_ret
  exact ⟨rfl, below_new w⟩

set_option maxHeartbeats 2000000 in
theorem index_lf (v : Value) (l : List Lf) (n : Int) (g : Nat) (w : World) (hv : LvAt w v l) (hc : w.cell? ⟨g, 0, none⟩ = some (.int .i64 n)) :
    Calls Try.prog 53 #[v, .func (.func 54) #[] #[.pointer (some ⟨g, 0, none⟩)]] w fun r w' => r = .returned (.int .i64 (idxI (l.findIdx (fun x => decide (n ≤ x.1))) l.length)) ∧ Below w.heap.size w w' := by
  obtain ⟨q, hq0⟩ : ∃ q : Lf → Bool, q = (fun x => decide (n ≤ x.1)) := ⟨_, rfl⟩
  obtain ⟨a, ca, rfl, hca, hma, pa⟩ := LvAt.parts hv
  unfold maxLen at hma
  have hglt := World.block_lt_of_cell? w ⟨g, 0, none⟩ hc
  have HQ : Hid (∀ (x1 x2 x3 x4 x5 x6 : Int) (W : World), Below w.heap.size w W → Calls Try.prog 54 #[lfV x1 x2 x3 x4 x5 x6, .pointer (some ⟨g, 0, none⟩)] W fun r w' => r = .returned (.bool (q (x1, x2, x3, x4, x5, x6))) ∧ Below W.heap.size W w') := by
    rw [hq0]
    exact fun x1 x2 x3 x4 x5 x6 W hb => clo_lf x1 x2 x3 x4 x5 x6 n g W ((hb.cell (p := ⟨g, 0, none⟩) hglt).trans hc)
  rw [← hq0]
  obtain ⟨ans, hans⟩ : ∃ ans, ans = idxI (l.findIdx q) l.length := ⟨_, rfl⟩
  rw [← hans]
  have H : Hid _ := hans
  clear hv hans hq0 hc
  go_enter Try.func53, Try.ntmps53
  go_wp2
  go_loopw [8] (fun i wr => ∃ k : Nat, i = .int .i64 k ∧ k ≤ l.length ∧ (∀ t ∈ l.take k, q t = false) ∧ Below w.heap.size w wr) (fun i _ => l.length - (intOf i).toNat)
  case atStart => exact ⟨0, rfl, Nat.zero_le _, by simp, Below.refl _ _⟩
  case round =>
    obtain ⟨k, rfl, hk, hall, hbr⟩ := hrel
    by_cases hlt : k < l.length
    · obtain ⟨b1, o1, rfl, hb1, c1, c2, c3, c4, c5, c6⟩ := pa k hlt
      have e1 := (hbr.cell (p := ⟨b1, o1 + k * 6, none⟩) hb1).trans c1
      have e2 := (hbr.cell (p := ⟨b1, o1 + k * 6 + 1, none⟩) hb1).trans c2
      have e3 := (hbr.cell (p := ⟨b1, o1 + k * 6 + 2, none⟩) hb1).trans c3
      have e4 := (hbr.cell (p := ⟨b1, o1 + k * 6 + 3, none⟩) hb1).trans c4
      have e5 := (hbr.cell (p := ⟨b1, o1 + k * 6 + 4, none⟩) hb1).trans c5
      have e6 := (hbr.cell (p := ⟨b1, o1 + k * 6 + 5, none⟩) hb1).trans c6
      have HA : Hid (_ ∧ _) := ⟨hall, hbr⟩
      have hkI : (k : Int) < (l.length : Int) := by omega
      have htk : l.take (k + 1) = l.take k ++ [l[k]] := List.take_succ_eq_append_getElem hlt
      have hfs : q l[k] = true → l.findIdx q = k := fun h => findIdx_is hlt hall h
      have hxk : ∃ x, x = l[k] := ⟨_, rfl⟩
      obtain ⟨⟨x1, x2, x3, x4, x5, x6⟩, hxk⟩ := hxk
      rw [← hxk] at e1 e2 e3 e4 e5 e6 htk hfs
      have HX : Hid (_ ∧ _) := ⟨htk, hfs⟩
      clear hall hbr c1 c2 c3 c4 c5 c6 hb1 pa htk hfs hxk
      cases hd : q (x1, x2, x3, x4, x5, x6)
      · go_wp2_with fail
        refine (HQ.out x1 x2 x3 x4 x5 x6 _ HA.out.2).mono ?_
        rw [hd]
        rintro r w2 ⟨rfl, hb2⟩
        have H2 : Hid _ := hb2
        clear hb2
        go_wp2
        go_roundw
        case rel =>
          refine ⟨k + 1, by simp, hlt, fun t ht => ?_, HA.out.2.trans (H2.out.mono HA.out.2.size)⟩
          rw [HX.out.1] at ht
          rcases List.mem_append.1 ht with ht | ht
          · exact HA.out.1 t ht
          · simp at ht
            rw [ht]
            exact hd
        case measure => simp [intOf]; omega
      · go_wp2_with fail
        refine (HQ.out x1 x2 x3 x4 x5 x6 _ HA.out.2).mono ?_
        rw [hd]
        rintro r w2 ⟨rfl, hb2⟩
        have HE : Hid (ans = (k : Int)) := by show ans = _; rw [H.out, HX.out.2 hd]; exact if_pos hlt
        have H2 : Hid _ := hb2
        clear hb2
        go_wp2
        go_ret
        exact ⟨by rw [HE.out]; rfl, HA.out.2.trans (H2.out.mono HA.out.2.size)⟩
    · have HE : Hid (ans = -1) := by
        show ans = _
        rw [H.out, findIdx_no fun t ht => hall t (by rw [List.take_of_length_le (by omega)]; exact ht)]
        exact if_neg (Nat.lt_irrefl _)
      have HB : Hid _ := hbr
      clear hall hbr pa
      go_wp2
      go_ret
      exact ⟨by rw [HE.out]; rfl, HB.out⟩

theorem own_cap {w : World} {base : Nat} {e : TypeId} {k : Nat} {p : Option Addr} {n c : Nat} {xs : List Value} (h : w.ownsRow base e k (.slice p n c) n xs) : n ≤ c ∧ c ≤ 9223372036854775807 := by
  rcases h.2 with ⟨e, h0⟩ | ⟨g, cap, cur, e, _, _, h1, h2, _⟩
  · cases e; omega
  · unfold maxLen at h2; cases e; exact ⟨h1, h2⟩

set_option maxHeartbeats 4000000 in
theorem asked_any (base T : Nat) (p : Option Addr) (c : Nat) (q : Option Addr) (m : Nat) (L : List Lf) (R : List Rq) (id : Int) (w : World) (h : Opn base w T (.slice p L.length c) (.slice q R.length m) L R) (x1 x2 x3 x4 x5 : Int) (b : Bool)
    (hx : (x1, x2, x3, x4, x5) = R[oldAt R id]?.getD (0, 0, 0, 0, 0)) (hb : b = decide (oldAt R id < R.length)) :
    Calls Try.prog 32 #[.pointer (some ⟨T, 0, none⟩), .int .i64 id] w fun r w' => r = .returned (.tuple #[rqV x1 x2 x3 x4 x5, .bool b]) ∧ Below w.heap.size w w' := by
  obtain ⟨hc1, hc2⟩ := own_cap h.reqs
  have hlt := h.lt
  obtain ⟨W0, hW0⟩ : ∃ W0, W0 = (w.alloc (.cells #[.int .i64 id] 3)).alloc (rqO 0 0 0 0 0) := ⟨_, rfl⟩
  have hB0 : Below w.heap.size w W0 := by rw [hW0]; exact ((Below.refl _ _).alloc (Nat.le_refl _) _).alloc (by simp) _
  have hR0 : W0.heap[w.heap.size]? = some (.cells #[.int .i64 id] 3 (0, 0)) := by rw [hW0]; exact heap_old _ _ (heap_alloc_new _ _)
  have hR1 : W0.heap[w.heap.size + 1]? = some (rqO 0 0 0 0 0) := by rw [hW0]; exact heap_second _ _ _
  have hO := h.below hB0
  obtain ⟨i, hi⟩ : ∃ i, i = oldAt R id := ⟨_, rfl⟩
  have HI : Hid (∀ W, Below W0.heap.size W0 W → Calls Try.prog 43 #[.slice q R.length m, .func (.func 44) #[] #[.pointer (some ⟨w.heap.size, 0, none⟩)]] W fun r w' => r = .returned (.int .i64 (idxI i R.length)) ∧ Below W.heap.size W w') := fun W hW => by
    rw [hi]
    exact index_rq _ R id w.heap.size W (RcAt.below hO.at.2 hW) (one_cell (box_below hR0 hW))
  rw [← hi] at hx hb
  have H : Hid (_ ∧ _ ∧ _ ∧ _) := ⟨hW0, hO, hB0, hR1⟩
  obtain ⟨c0, c1, _, _, _⟩ := two_cells h.box
  clear hW0 hO hB0 hR0 hR1 h hi
  by_cases hlti : i < R.length
  · obtain rfl : b = true := by rw [hb]; exact decide_eq_true hlti
    have hidx : idxI i R.length = (i : Int) := if_pos hlti
    rw [hidx] at HI
    rw [List.getElem?_eq_getElem hlti, Option.getD_some] at hx
    have hiI : (i : Int) < (R.length : Int) := by omega
    have HX : Hid _ := hx
    clear hb hx hidx
    go_enter Try.func32, Try.ntmps32
    go_wp2_with fail
    rw [← H.out.1]
    refine (HI.out _ (Below.refl _ _)).mono ?_
    rintro r w1 ⟨rfl, hb1⟩
    have hO := H.out.2.1.below hb1
    obtain ⟨c0, c1, _, _, hltT⟩ := two_cells hO.box
    obtain ⟨d0, d1, d2, d3, d4, dlt⟩ := five_cells (box_below H.out.2.2.2 hb1)
    obtain ⟨g, c', he, _, hglt⟩ := hO.reqs.form (by omega)
    cases he
    have e0 := own_cell rq5 hO.reqs rfl hlti (j := 0) (by omega)
    have e1 := own_cell rq5 hO.reqs rfl hlti (j := 1) (by omega)
    have e2 := own_cell rq5 hO.reqs rfl hlti (j := 2) (by omega)
    have e3 := own_cell rq5 hO.reqs rfl hlti (j := 3) (by omega)
    have e4 := own_cell rq5 hO.reqs rfl hlti (j := 4) (by omega)
    rw [← HX.out] at e0 e1 e2 e3 e4
    simp only [List.getElem?_cons_zero, List.getElem?_cons_succ, Option.map_some, Nat.add_zero] at e0 e1 e2 e3 e4
    have hf0 : w1.frozen? ⟨w.heap.size + 1, 0, none⟩ = false := by simp [World.frozen?, box_below H.out.2.2.2 hb1]
    have hf1 : w1.frozen? ⟨w.heap.size + 1, 1, none⟩ = false := by simp [World.frozen?, box_below H.out.2.2.2 hb1]
    have hf2 : w1.frozen? ⟨w.heap.size + 1, 2, none⟩ = false := by simp [World.frozen?, box_below H.out.2.2.2 hb1]
    have hf3 : w1.frozen? ⟨w.heap.size + 1, 3, none⟩ = false := by simp [World.frozen?, box_below H.out.2.2.2 hb1]
    have hf4 : w1.frozen? ⟨w.heap.size + 1, 4, none⟩ = false := by simp [World.frozen?, box_below H.out.2.2.2 hb1]
    have HB : Hid (_ ∧ _) := ⟨H.out.2.2.1.trans (hb1.mono H.out.2.2.1.size), box_below H.out.2.2.2 hb1⟩
    clear hO hb1
    go_wp2
    exact bodyPost_ret (v := .tuple #[rqV x1 x2 x3 x4 x5, .bool true]) (results_ct Try.results32 rfl rfl (load_row (P := Try.prog) (cs := [.int .i64 x1, .int .i64 x2, .int .i64 x3, .int .i64 x4, .int .i64 x5]) (five_set HB.out.2) Try.underlying31 rfl (by kernel_rfl))) rfl ⟨rfl, below_set5 HB.out.1 (Nat.le_succ _)⟩
  · obtain rfl : b = false := by rw [hb]; exact decide_eq_false hlti
    have hidx : idxI i R.length = -1 := if_neg hlti
    rw [hidx] at HI
    rw [List.getElem?_eq_none (by omega), Option.getD_none] at hx
    cases hx
    clear hb hidx
    go_enter Try.func32, Try.ntmps32
    go_wp2_with fail
    rw [← H.out.1]
    refine (HI.out _ (Below.refl _ _)).mono ?_
    rintro r w1 ⟨rfl, hb1⟩
    obtain ⟨d0, d1, d2, d3, d4, dlt⟩ := five_cells (box_below H.out.2.2.2 hb1)
    have hf0 : w1.frozen? ⟨w.heap.size + 1, 0, none⟩ = false := by simp [World.frozen?, box_below H.out.2.2.2 hb1]
    have hf1 : w1.frozen? ⟨w.heap.size + 1, 1, none⟩ = false := by simp [World.frozen?, box_below H.out.2.2.2 hb1]
    have hf2 : w1.frozen? ⟨w.heap.size + 1, 2, none⟩ = false := by simp [World.frozen?, box_below H.out.2.2.2 hb1]
    have hf3 : w1.frozen? ⟨w.heap.size + 1, 3, none⟩ = false := by simp [World.frozen?, box_below H.out.2.2.2 hb1]
    have hf4 : w1.frozen? ⟨w.heap.size + 1, 4, none⟩ = false := by simp [World.frozen?, box_below H.out.2.2.2 hb1]
    have HB : Hid (_ ∧ _) := ⟨H.out.2.2.1.trans (hb1.mono H.out.2.2.1.size), box_below H.out.2.2.2 hb1⟩
    clear hb1
    go_wp2
    exact bodyPost_ret (v := .tuple #[rqV 0 0 0 0 0, .bool false]) (results_ct Try.results32 rfl rfl (load_row (P := Try.prog) (cs := [.int .i64 0, .int .i64 0, .int .i64 0, .int .i64 0, .int .i64 0]) (five_set HB.out.2) Try.underlying31 rfl (by kernel_rfl))) rfl ⟨rfl, below_set5 HB.out.1 (Nat.le_succ _)⟩

set_option maxHeartbeats 4000000 in
theorem place_any (base T : Nat) (p : Option Addr) (c : Nat) (q : Option Addr) (m : Nat) (L : List Lf) (R : List Rq) (n : Int) (w : World) (h : Opn base w T (.slice p L.length c) (.slice q R.length m) L R) (i : Nat) (b : Bool) (hi : i = pos L n) (hb : b = here L n) :
    Calls Try.prog 47 #[.pointer (some ⟨T, 0, none⟩), .int .i64 n] w fun r w' => r = .returned (.tuple #[.int .i64 i, .bool b]) ∧ Below w.heap.size w w' := by
  obtain ⟨hc1, hc2⟩ := own_cap h.lives
  have hlt := h.lt
  obtain ⟨W0, hW0⟩ : ∃ W0, W0 = w.alloc (.cells #[.int .i64 n] 3) := ⟨_, rfl⟩
  have hB0 : Below w.heap.size w W0 := by rw [hW0]; exact below_new _
  have hR0 : W0.heap[w.heap.size]? = some (.cells #[.int .i64 n] 3 (0, 0)) := by rw [hW0]; exact heap_alloc_new _ _
  have hO := h.below hB0
  have HI : Hid (∀ W, Below W0.heap.size W0 W → Calls Try.prog 53 #[.slice p L.length c, .func (.func 54) #[] #[.pointer (some ⟨w.heap.size, 0, none⟩)]] W fun r w' => r = .returned (.int .i64 (idxI i L.length)) ∧ Below W.heap.size W w') := fun W hW => by
    rw [hi]
    exact index_lf _ L n w.heap.size W (RcAt.below hO.at.1 hW) (one_cell (box_below hR0 hW))
  have H : Hid (_ ∧ _ ∧ _ ∧ _) := ⟨hW0, hO, hB0, hR0⟩
  obtain ⟨c0, c1, _, _, _⟩ := two_cells h.box
  clear hW0 hO hB0 hR0 h
  by_cases hlti : i < L.length
  · have hidx : idxI i L.length = (i : Int) := if_pos hlti
    rw [hidx] at HI
    have hiI : (i : Int) < (L.length : Int) := by omega
    obtain ⟨x, hx⟩ : ∃ x, x = L[i].1 := ⟨_, rfl⟩
    have hbx : b = (x == n) := by
      rw [hb, hx]
      subst hi
      unfold here
      rw [List.getElem?_eq_getElem hlti]
    have HX : Hid (_ ∧ _) := ⟨hx, hbx⟩
    clear hb hx hidx hbx hi
    go_enter Try.func47, Try.ntmps47
    go_wp2_with fail
    rw [← H.out.1]
    refine (HI.out _ (Below.refl _ _)).mono ?_
    rintro r w1 ⟨rfl, hb1⟩
    have hO := H.out.2.1.below hb1
    obtain ⟨c0, c1, _, _, hltT⟩ := two_cells hO.box
    have d0 := one_cell (box_below H.out.2.2.2 hb1)
    obtain ⟨g, c', he, _, hglt⟩ := hO.lives.form (by omega)
    cases he
    have e0 := own_cell lf6 hO.lives rfl hlti (j := 0) (by omega)
    simp only [List.getElem?_cons_zero, List.getElem?_cons_succ, Option.map_some, Nat.add_zero] at e0
    rw [← HX.out.1] at e0
    have HB : Hid _ := H.out.2.2.1.trans (hb1.mono H.out.2.2.1.size)
    clear hO hb1
    go_wp2
    go_region
    go_wp2
    go_ret2
    exact ⟨by rw [HX.out.2]; rfl, HB.out.drew⟩
  · have hidx : idxI i L.length = -1 := if_neg hlti
    rw [hidx] at HI
    have hil : i = L.length := by have := pos_le L n; omega
    obtain rfl : b = false := by
      rw [hb]
      unfold here
      rw [← hi, List.getElem?_eq_none (by omega)]
    have HX : Hid _ := hil
    clear hb hidx hi hil
    go_enter Try.func47, Try.ntmps47
    go_wp2_with fail
    rw [← H.out.1]
    refine (HI.out _ (Below.refl _ _)).mono ?_
    rintro r w1 ⟨rfl, hb1⟩
    have hO := H.out.2.1.below hb1
    obtain ⟨c0, c1, _, _, hltT⟩ := two_cells hO.box
    have HB : Hid _ := H.out.2.2.1.trans (hb1.mono H.out.2.2.1.size)
    clear hO hb1
    go_wp2
    go_ret2
    exact ⟨by rw [HX.out]; rfl, HB.out⟩

set_option maxHeartbeats 4000000 in
theorem life_no (base T : Nat) (p : Option Addr) (c : Nat) (q : Option Addr) (m : Nat) (L : List Lf) (R : List Rq) (n : Int) (w : World) (h : Opn base w T (.slice p L.length c) (.slice q R.length m) L R) (hh : here L n = false) :
    Calls Try.prog 38 #[.pointer (some ⟨T, 0, none⟩), .int .i64 n] w fun r w' => r = .returned (.pointer none) ∧ Below w.heap.size w w' := by
  have HP : Hid _ := place_any base T p c q m L R n w h (pos L n) false rfl hh.symm
  generalize pos L n = i at *
  clear h hh
  go_enter Try.func38, Try.ntmps38
  go_wp2_with fail
  refine Calls.mono HP.out ?_
  rintro r w1 ⟨rfl, hb1⟩
  have HB : Hid _ := hb1
  clear hb1
  go_wp2
  go_ret
  exact ⟨rfl, HB.out⟩

set_option maxHeartbeats 4000000 in
theorem life_yes (base T g : Nat) (c : Nat) (q : Option Addr) (m : Nat) (L : List Lf) (R : List Rq) (n : Int) (w : World) (h : Opn base w T (.slice (some ⟨g, 0, none⟩) L.length c) (.slice q R.length m) L R) (hh : here L n = true) (i : Nat) (hi : i = pos L n) :
    Calls Try.prog 38 #[.pointer (some ⟨T, 0, none⟩), .int .i64 n] w fun r w' => r = .returned (.pointer (some ⟨g, i * 6, none⟩)) ∧ Below w.heap.size w w' := by
  obtain ⟨hc1, hc2⟩ := own_cap h.lives
  have HP : Hid (_ ∧ _) := ⟨place_any base T _ c q m L R n w h i true hi hh.symm, h⟩
  have hlti : i < L.length := by rw [hi]; exact here_lt hh
  have hiI : (i : Int) < (L.length : Int) := by omega
  clear h hh hi
  go_enter Try.func38, Try.ntmps38
  go_wp2_with fail
  refine Calls.mono HP.out.1 ?_
  rintro r w1 ⟨rfl, hb1⟩
  obtain ⟨c0, c1, _, _, hltT⟩ := two_cells (HP.out.2.below hb1).box
  have HB : Hid _ := hb1
  clear hb1
  go_wp2
  go_ret
  exact ⟨by simp, HB.out⟩
end Go.Proofs.Ytlpedligkofegaa.Walks
