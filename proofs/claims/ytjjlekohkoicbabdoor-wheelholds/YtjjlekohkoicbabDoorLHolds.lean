/-
  The law of holding: a wheel holds each timer once, till its tick has come. No condition.
-/
import Derived.Test.YtjjlekohkoicbabDoorArmed
import Derived.WalkKit
import Derived.ProofKit
import Derived.Handy
import Derived.LoopTactic
import Derived.Below
import Derived.Laws.BitsAllLaws
import Derived.RegionTactic
import Derived.Deep.RegionHeld3
import Derived.Deep.DrawnRows
import Derived.Deep.AppendLies
import Derived.Laws.OwnMore
import Derived.Deep.Onto
import Derived.Deep.QuietTactic
import Derived.BigQuiet
namespace Go.Proofs.YtjjlekohkoicbabDoor.Walks
open Go.RowKit
set_option linter.unusedVariables false
set_option linter.unusedSimpArgs false
attribute [local go_sem ↓] Go.wp_at_zero Go.wp_at_succ

/-- How often a number comes. -/
def cnt (L : List Tm) (j : Int) : Int := ((L.filter fun t => decide (t.2 = j)).length : Nat)
theorem cnt_nil (j : Int) : cnt [] j = 0 := rfl
theorem cnt_snoc (L : List Tm) (t : Tm) (j : Int) : cnt (L ++ [t]) j = cnt L j + if t.2 = j then 1 else 0 := by
  unfold cnt
  rw [List.filter_append, List.length_append]
  by_cases h : t.2 = j <;> simp [h]
theorem cnt_le (L : List Tm) (j : Int) : 0 ≤ cnt L j ∧ cnt L j ≤ L.length := by
  unfold cnt
  have := List.length_filter_le (fun t : Tm => decide (t.2 = j)) L
  omega
theorem cnt_none {L : List Tm} {j : Int} (h : ∀ t ∈ L, t.2 ≠ j) : cnt L j = 0 := by
  unfold cnt
  rw [List.filter_eq_nil_iff.2 (fun t ht => by simpa using h t ht)]
  rfl
theorem cnt_one {L : List Tm} {j : Int} (hn : (L.map (·.2)).Nodup) {t : Tm} (ht : t ∈ L) (e : t.2 = j) : cnt L j = 1 := by
  induction L with
  | nil => cases ht
  | cons x L ih =>
    have hn' := List.nodup_cons.1 hn
    unfold cnt
    by_cases hx : x.2 = j
    · rw [List.filter_cons_of_pos (by simpa using hx)]
      have : L.filter (fun t => decide (t.2 = j)) = [] := List.filter_eq_nil_iff.2 fun y hy => by
        simp only [decide_eq_true_eq]
        intro ey
        exact hn'.1 (by show x.2 ∈ _; rw [hx, ← ey]; exact List.mem_map.2 ⟨y, hy, rfl⟩)
      rw [this]
      rfl
    · rw [List.filter_cons_of_neg (by simpa using hx)]
      rcases List.mem_cons.1 ht with rfl | ht
      · exact absurd e hx
      · exact ih hn'.2 ht

/-- What is seen so far. -/
def Seen (s : List Int) (L : List Tm) : Prop := s.length = 20 ∧ ∀ j (h : j < s.length), s[j] = cnt L j
theorem seen_nil : Seen (List.replicate 20 0) [] := ⟨by simp, fun j h => by rw [List.getElem_replicate, cnt_nil]⟩
theorem Seen.snoc {s : List Int} {L : List Tm} (h : Seen s L) {t : Tm} {i : Nat} (hi : i < s.length) (e : t.2 = (i : Int)) : Seen (s.set i (s[i] + 1)) (L ++ [t]) := by
  refine ⟨by rw [List.length_set]; exact h.1, fun j hj => ?_⟩
  rw [List.length_set] at hj
  rw [cnt_snoc]
  by_cases hji : j = i
  · subst hji
    rw [List.getElem_set_self, if_pos e, h.2 j hi]
  · rw [List.getElem_set_ne (Ne.symm hji), if_neg (by omega), h.2 j hj]
    omega

theorem take_flat {ls : List (List Tm)} {i : Nat} {l : List Tm} (h : ls[i]? = some l) : (ls.take i).flatten ++ l.take l.length = (ls.take (i + 1)).flatten := by
  have hi := (List.getElem?_eq_some_iff.1 h).1
  have hl := (List.getElem?_eq_some_iff.1 h).2
  rw [List.take_length, List.take_succ_eq_append_getElem hi, List.flatten_append, hl]
  simp

set_option maxHeartbeats 8000000 in
set_option maxRecDepth 100000 in
theorem holds_walk {w : World} (now : Int) (w0 : (Lit.int .i64 now).wf = true) (v : Value) (l : List Tm) (hAt : TmAt w v l) (hwf : ∀ t ∈ l, (Lit.int .i64 t.1).wf = true ∧ (Lit.int .i64 t.2).wf = true) (hlen : l.length ≤ 140737488351232 / 16) (ticks : Int) (w5 : (Lit.int .i64 ticks).wf = true) (hB : Blk w) :
    Calls Tryd.prog 4 #[.int .i64 now, v, .int .i64 ticks] w fun r w' => r = .returned (.bool true) ∧ Below w.heap.size w w' := by
  obtain ⟨m, hm, HM⟩ := picked_some ticks 300 w5 (by omega) (by omega)
  have HC : Hid (_ ∧ _ ∧ _ ∧ _ ∧ _) := ⟨HM, hAt, hwf, hB, w0⟩
  obtain ⟨va, vc, rfl, _⟩ := hAt.parts
  clear HM hAt hwf hB w0 w5 hlen
  go_enter Tryd.func4, Tryd.ntmps4
  go_wp2_with fail
  refine (armed_any w now HC.out.2.2.2.2 _ l (fun W hW => HC.out.2.1.below hW) HC.out.2.2.1 HC.out.2.2.2.1).mono ?_
  rintro r w1 ⟨n, p, c, a, ls, rfl, hn, hO, hS, hb1⟩
  have HT : Hid (((w1.alloc (.cells #[.int .i64 n, .slice p 25 c] 27)).alloc (.cells (icells (List.replicate 20 0)).toArray 38)).there (w1.heap.size + 1) 0 (icells a).toArray.size ∧ (Tryd.prog.info? 38).map (·.size) = some (icells a).toArray.size) := by
    have h1 := (Arr.new (w1.alloc (.cells #[.int .i64 n, .slice p 25 c] 27)) 38 (List.replicate 20 0)).there
    rw [World.size_alloc, List.length_replicate] at h1
    have e : (icells a).toArray.size = 20 := by simp [icells_len, hS.len]
    rw [e]
    exact ⟨h1, info20⟩
  have H1 : Hid (_ ∧ _ ∧ _) := ⟨hO, hS, hb1⟩
  clear hO hS hb1
  go_wp2_with (first | (refine wpList_store_mid rfl 38 _ _ rfl (w1.heap.size + 1) 0 (icells a).toArray rfl rfl HT.out.1 HT.out.2 (all_oneCell_toArray (icells_one a)) ?_))
  have hT0 := H1.out.2.2
  obtain ⟨W0, hW0⟩ : ∃ W0, W0 = (((w1.alloc (.cells #[.int .i64 n, .slice p 25 c] 27)).alloc (.cells (icells (List.replicate 20 0)).toArray 38)).setCells (w1.heap.size + 1) 0 (icells a)) := ⟨_, rfl⟩
  have hb10 : Below w1.heap.size w1 W0 := by
    rw [hW0]
    have h1 : Below w1.heap.size w1 ((w1.alloc (.cells #[.int .i64 n, .slice p 25 c] 27)).alloc (.cells (icells (List.replicate 20 0)).toArray 38)) := ((Below.refl _ _).alloc (Nat.le_refl _) _).alloc (by simp) _
    exact below_setCells h1 (by omega) _ _ h1.size
  have hX0 : Bx W0 w1.heap.size n p c := by
    rw [hW0]
    exact (World.heap_setCells_other _ _ _ _ (by simp; omega) (by omega)).trans (heap_old _ _ (heap_alloc_new _ _))
  have hA0 : Arr 38 20 W0 (w1.heap.size + 1) a := by
    rw [hW0]
    have h1 := Arr.new (w1.alloc (.cells #[.int .i64 n, .slice p 25 c] 27)) 38 (List.replicate 20 0)
    rw [World.size_alloc, List.length_replicate] at h1
    exact (h1.store (P := Tryd.prog) H1.out.2.1.len info20).2
  have H2 : Hid (_ ∧ _ ∧ _ ∧ _) := ⟨hX0, hA0, H1.out.1.at.below hb10, hT0.trans (hb10.mono hT0.size)⟩
  have hsw : w.heap.size ≤ w1.heap.size := hT0.size
  clear hX0 hA0 hb10 hT0
  rw [zeros20]
  rw [← hW0]
  clear hW0 HT
  go_loopw [10] (fun t wr => ∃ (q : Nat) (p : Option Addr) (c : Nat) (ms : List (List Tm)), t = .int .i64 q ∧ q ≤ m ∧ Bx wr w1.heap.size (n + q) p c ∧ Arr 38 20 wr (w1.heap.size + 1) a ∧ LsAt wr (.slice p 25 c) ms ∧ May (n + q) ms ∧ (∀ t, t ∈ ms.flatten ↔ t ∈ ls.flatten ∧ (n : Int) + q < t.1) ∧ Below w.heap.size w wr) (fun t _ => m - (intOf t).toNat)
  case atStart =>
    obtain ⟨h1, h2, h3, h4⟩ := H2.out
    refine ⟨0, p, c, ls, rfl, Nat.zero_le _, by simpa using h1, h2, h3, by simpa using H1.out.2.1.may, fun t => ⟨fun ht => ⟨ht, ?_⟩, fun ht => ht.1⟩, h4⟩
    have := (fitsT_iff _ _).1 (H1.out.2.1.may.2.mem_fits ht)
    omega
  case round =>
    obtain ⟨q, p, c, ms, rfl, hq, hX, hA, hL, hM, hmem, hbr⟩ := hrel
    by_cases hqm : q < m
    · obtain ⟨d0, d1, df0, df1, dlt⟩ := two_cells hX
      have HR : Hid (_ ∧ _ ∧ _ ∧ _ ∧ _ ∧ _) := ⟨hX, hA, hL, hM, hmem, hbr⟩
      clear hX hA hL hM hmem hbr
      have hqI : (q : Int) < (m : Int) := by omega
      go_wp2_with fail
      refine (HC.out.1 _).mono ?_
      rintro r w6 ⟨rfl, rfl⟩
      go_wp2_with fail
      obtain ⟨hX, hA, hL, hM, hmem, hbr⟩ := HR.out
      refine (advance_fine _ (n + q) ms _ (HC.out.2.2.2.1.below hbr) hL hM (by omega)).mono ?_
      rintro r w7 ⟨p4, c4, xp, xc, m1, L1, rfl, hO4, hT4, _, hb7⟩
      have hX7 := hX.below hb7
      obtain ⟨e0, e1, ef0, ef1, elt⟩ := two_cells hX7
      have H7 : Hid (_ ∧ _ ∧ _ ∧ _ ∧ _) := ⟨hO4, hT4, hX7, hA.below hb7, hbr.trans (hb7.mono hbr.size)⟩
      clear hX hA hL hM hmem hbr hO4 hT4 hX7 hb7 d0 d1 df0 df1
      go_wp2
      go_roundw
      case rel =>
        obtain ⟨h1, h2, h3, h4, h5⟩ := H7.out
        have hc : ((n : Int) + ((q + 1 : Nat) : Int)) = n + q + 1 := by omega
        have hgr : ∀ W : World, Below W.heap.size W (W.alloc (.cells #[.int .i64 (n + q + 1), .slice p4 25 c4] 27)) := fun W => (Below.refl _ _).alloc (Nat.le_refl _) _
        have hb := below_set2 h5 (g := w1.heap.size) hsw (.int .i64 (n + q + 1)) (.slice p4 25 c4)
        refine ⟨q + 1, p4, c4, m1, by simp, hqm, ?_, ?_, ?_, ?_, fun t => ?_, hb.trans ((hgr _).mono hb.size)⟩
        · rw [hc]; exact h3.set.below (hgr _)
        · exact ((h4.other (by simp) _).other (by simp) _).below (hgr _)
        · exact ((h1.set2 dlt _ _).below (hgr _)).at
        · rw [hc]; exact h2.may
        · rw [h2.left, HR.out.2.2.2.2.1]
          constructor
          · rintro ⟨⟨h, h'⟩, h''⟩
            exact ⟨h, by omega⟩
          · rintro ⟨h, h'⟩
            exact ⟨⟨h, by omega⟩, by omega⟩
      case measure => simp [intOf]; omega
    · obtain rfl : q = m := by omega
      have HR : Hid (_ ∧ _ ∧ _ ∧ _ ∧ _ ∧ _) := ⟨hX, hA, hL, hM, hmem, hbr⟩
      obtain ⟨d0, d1, df0, df1, dlt⟩ := two_cells hX
      clear hX hA hL hM hmem hbr
      go_wp2_with fail
      refine (HC.out.1 _).mono ?_
      rintro r w6 ⟨rfl, rfl⟩
      go_wp2_with fail
      obtain ⟨hX, hA, hL, hM, hmem, hbr⟩ := HR.out
      obtain ⟨la, lc, hle, _, hlm, pl⟩ := hL.parts
      have hml := hM.2.len
      rw [hml] at hle
      obtain ⟨rfl, _, rfl⟩ : p = la ∧ True ∧ c = lc := by cases hle; exact ⟨rfl, trivial, rfl⟩
      have hN : Below w6.heap.size w6 (w6.alloc (.cells (icells (List.replicate 20 0)).toArray 38)) := (Below.refl _ _).alloc (Nat.le_refl _) _
      have hS0 := Arr.new w6 38 (List.replicate 20 0)
      rw [List.length_replicate] at hS0
      have hids := hM.2.ids
      have hstn := H1.out.2.1
      have hfin : ∀ (j : Nat) (hja : j < a.length), cnt ms.flatten j = if (n : Int) + q < a[j] then 1 else 0 := fun j hja => by
        by_cases hgt : (n : Int) + q < a[j]
        · rw [if_pos hgt]
          exact cnt_one hids (t := (a[j], (j : Int))) ((hmem _).2 ⟨(hstn.mem _).2 ⟨j, hja, rfl, by omega⟩, hgt⟩) rfl
        · rw [if_neg hgt]
          refine cnt_none fun t ht e => ?_
          obtain ⟨h1, h2⟩ := (hmem t).1 ht
          obtain ⟨k, hk, rfl, hp⟩ := (hstn.mem t).1 h1
          have : k = j := by have : (k : Int) = (j : Int) := e; omega
          subst this
          exact hgt h2
      have hall : ∀ t ∈ ms.flatten, ∃ (j : Nat) (h : j < a.length), t = (a[j], (j : Int)) := fun t ht => by
        obtain ⟨h1, h2⟩ := (hmem t).1 ht
        obtain ⟨k, hk, e, hp⟩ := (hstn.mem t).1 h1
        exact ⟨k, hk, e⟩
      have hal := hstn.len
      have hbnd : ∀ x ∈ a, -9223372036854775808 ≤ x ∧ x ≤ 9223372036854775807 := fun x hx => by rcases hstn.bnd x hx with h | h <;> omega
      have H8 : Hid (_ ∧ _ ∧ _ ∧ _ ∧ _ ∧ _ ∧ _ ∧ _ ∧ _ ∧ _) := ⟨hX, hA, pl, hN, hS0, hfin, hall, hal, hbr, hM.2.total⟩
      clear hX hA hL hM hmem hbr pl hN hS0 hfin hall hids hstn hle d0 d1 df0 df1
      rw [zeros20]
      go_loopw [15] (fun t wr => ∃ (i : Nat) (s : List Int), t = .int .i64 i ∧ i ≤ 25 ∧ Below w6.heap.size w6 wr ∧ Arr 38 20 wr w6.heap.size s ∧ Seen s (ms.take i).flatten) (fun t _ => 25 - (intOf t).toNat)
      case atStart => exact ⟨0, _, rfl, Nat.zero_le _, H8.out.2.2.2.1, H8.out.2.2.2.2.1, seen_nil⟩
      case round =>
        obtain ⟨i, s, rfl, hi, hbi, hAs, hSe⟩ := hrel
        obtain ⟨w7, hw7⟩ : ∃ w7, w7 = wr := ⟨_, rfl⟩
        subst hw7
        obtain ⟨f0, f1, _, _, flt⟩ := two_cells (H8.out.1.below hbi)
        by_cases hi25 : i < 25
        · obtain ⟨b0, off, u, rfl, hb0, cu, hu⟩ := H8.out.2.2.1 i (by omega)
          obtain ⟨L, hLe⟩ : ∃ L, L = ms[i]'(by omega) := ⟨_, rfl⟩
          have hLi : ms[i]? = some L := by rw [hLe]; exact List.getElem?_eq_getElem _
          rw [← hLe] at hu
          obtain ⟨ul, uc, rfl, huc, hum, pu⟩ := hu.parts
          unfold maxLen at hum
          have g1 := (hbi.cell (p := ⟨b0, off + i, none⟩) hb0).trans cu
          have hiI : (i : Int) < 25 := by omega
          have hid : decide ((i : Int) < 25) = true := decide_eq_true hiI
          have HI : Hid (_ ∧ _ ∧ _ ∧ _ ∧ _) := ⟨hbi, hAs, hSe, pu, hLi⟩
          have hb0' : b0 < w6.heap.size := hb0
          clear hbi hAs hSe pu hLi hLe hu cu hb0
          go_wp2
          go_loopw [16] (fun t wr => ∃ (k : Nat) (s : List Int), t = .int .i64 k ∧ k ≤ L.length ∧ Below w6.heap.size w6 wr ∧ Arr 38 20 wr w6.heap.size s ∧ Seen s ((ms.take i).flatten ++ L.take k)) (fun t _ => L.length - (intOf t).toNat)
          case atStart => exact ⟨0, s, rfl, Nat.zero_le _, HI.out.1, HI.out.2.1, by simpa using HI.out.2.2.1⟩
          case round =>
            obtain ⟨k, s, rfl, hk, hbk, hAk, hSk⟩ := hrel
            obtain ⟨h0, h1, _, _, hlt⟩ := two_cells (H8.out.1.below hbk)
            have g2 : wr.cell? ⟨b0, off + i, none⟩ = some (.slice ul L.length uc) := (hbk.cell (p := ⟨b0, off + i, none⟩) hb0').trans ((HI.out.1.cell (p := ⟨b0, off + i, none⟩) hb0').symm.trans g1)
            by_cases hkL : k < L.length
            · obtain ⟨bu, ou, rfl, hbu, p1, p2⟩ := HI.out.2.2.2.1 k hkL
              have e1 := (hbk.cell (p := ⟨bu, ou + k * 2, none⟩) hbu).trans p1
              have e2 := (hbk.cell (p := ⟨bu, ou + k * 2 + 1, none⟩) hbu).trans p2
              obtain ⟨j, hj, hje⟩ := H8.out.2.2.2.2.2.2.1 L[k] (List.mem_flatten.2 ⟨L, List.mem_of_getElem? HI.out.2.2.2.2, List.getElem_mem hkL⟩)
              have hj20 : j < 20 := by rw [← H8.out.2.2.2.2.2.2.2.1]; exact hj
              have hAk2 := (H8.out.2.1.below hbk).cell j hj
              have hs20 := hSk.1
              have hsj := hAk.cell j (by omega)
              have hsf := hAk.frozen j
              have hSk2 := hSk.snoc (t := L[k]) (i := j) (by omega) (by rw [hje])
              have hcb := cnt_le ((ms.take i).flatten ++ L.take k) j
              have hcl : ((ms.take i).flatten ++ L.take k).length ≤ 200 := by
                have h3 := H8.out.2.2.2.2.2.2.2.2.2
                have h4 : (ms.take (i + 1)).flatten.length ≤ ms.flatten.length := by
                  have := congrArg List.length (congrArg List.flatten (List.take_append_drop (i + 1) ms))
                  rw [List.flatten_append, List.length_append] at this
                  omega
                rw [← take_flat HI.out.2.2.2.2, List.length_append] at h4
                rw [List.length_append, List.length_take]
                rw [List.length_take] at h4
                omega
              have hsv := hSk.2 j (by omega)
              rw [hje] at e1 e2
              generalize hsx : s[j]'(by omega) = sv at *
              generalize hax : a[j] = av at *
              have hjI0 : (0 : Int) ≤ (j : Int) := by omega
              have hjI : (j : Int) < 20 := by omega
              have hjd1 : decide ((j : Int) < 0) = false := decide_eq_false (by omega)
              have hjd2 : decide ((20 : Int) ≤ (j : Int)) = false := decide_eq_false (by omega)
              have hsv1 : 0 ≤ sv := by omega
              have hsv2 : sv ≤ 1000 := by omega
              have hkd : decide ((k : Int) < (L.length : Int)) = true := decide_eq_true (by omega)
              have hkI : (k : Int) < (L.length : Int) := by omega
              have hAlt := hAk.lt
              have hAlt2 := (H8.out.2.1.below hbk).lt
              have HK : Hid (_ ∧ _ ∧ _ ∧ _) := ⟨hbk, hAk, hSk2, hsv⟩
              clear hbk hAk hSk hSk2 hsv p1 p2 hje hsx hax hcb hcl
              go_wp2_with fail
              go_region
              go_wp2
              go_roundw
              case rel =>
                obtain ⟨r1, r2, r3, r4⟩ := HK.out
                have h1 := r1.setCell (p := ⟨w6.heap.size, j, none⟩) (Nat.le_refl _) (.int .i64 (sv + 1))
                refine ⟨k + 1, s.set j (sv + 1), by simp, hkL, (h1.alloc h1.size _).drew, ?_, ?_⟩
                · exact ((r2.set j (sv + 1)).below ((Below.refl _ _).alloc (Nat.le_refl _) _)).keep rfl
                · rw [List.take_succ_eq_append_getElem hkL, ← List.append_assoc]
                  exact r3
              case measure => simp [intOf]; omega
            · obtain rfl : k = L.length := by omega
              have HK : Hid (_ ∧ _ ∧ _) := ⟨hbk, hAk, hSk⟩
              clear hbk hAk hSk
              go_wp2
              go_roundw
              case rel =>
                obtain ⟨r1, r2, r3⟩ := HK.out
                exact ⟨i + 1, s, by simp, hi25, r1, r2, by rw [← take_flat HI.out.2.2.2.2]; exact r3⟩
              case measure => simp [intOf]; omega
        · obtain rfl : i = 25 := by omega
          have hSf : Seen s ms.flatten := by
            have := hSe
            rwa [List.take_of_length_le (by omega)] at this
          have HE : Hid (_ ∧ _ ∧ _) := ⟨hbi, hAs, hSf⟩
          clear hbi hAs hSe hSf
          go_wp2
          go_loopw [18] (fun t wr => ∃ (k d : Nat), t = .int .i64 k ∧ k ≤ 20 ∧ wr = w7.drewN d) (fun t _ => 20 - (intOf t).toNat)
          case atStart => exact ⟨0, 0, rfl, Nat.zero_le _, rfl⟩
          case round =>
            obtain ⟨k, d, rfl, hk, rfl⟩ := hrel
            by_cases hk20 : k < 20
            · have hka : k < a.length := by omega
              have hks : k < s.length := by rw [HE.out.2.2.1]; exact hk20
              have r1 := (H8.out.2.1.below HE.out.1).cell k hka
              have r2 := HE.out.2.1.cell k hks
              have r3 := HE.out.2.2.2 k hks
              rw [H8.out.2.2.2.2.2.1 k hka] at r3
              rw [r3] at r2
              generalize a[k] = av at *
              have hkI : (k : Int) < 20 := by omega
              have hkd : decide ((k : Int) < 20) = true := decide_eq_true hkI
              clear r3
              by_cases hgt : (n : Int) + q < av
              · rw [if_pos hgt] at r2
                have hgd1 : decide ((n : Int) + q < av) = true := decide_eq_true hgt
                have hgd2 : decide (av ≤ (n : Int) + q) = false := decide_eq_false (by omega)
                go_wp2_with fail
                go_region
                go_wp2
                go_roundw
                case rel => exact ⟨k + 1, d + 1, by simp, hk20, rfl⟩
                case measure => simp [intOf]; omega
              · rw [if_neg hgt] at r2
                have hle : av ≤ (n : Int) + q := by omega
                have hgd1 : decide ((n : Int) + q < av) = false := decide_eq_false (by omega)
                have hgd2 : decide (av ≤ (n : Int) + q) = true := decide_eq_true hle
                clear hgt
                go_wp2_with fail
                go_region
                go_wp2
                go_roundw
                case rel => exact ⟨k + 1, d + 1, by simp, hk20, rfl⟩
                case measure => simp [intOf]; omega
            · obtain rfl : k = 20 := by omega
              go_wp2
              go_ret
              exact ⟨rfl, below_drewN (H8.out.2.2.2.2.2.2.2.2.1.trans (HE.out.1.mono H8.out.2.2.2.2.2.2.2.2.1.size)) _⟩
end Go.Proofs.YtjjlekohkoicbabDoor.Walks
