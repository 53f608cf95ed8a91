/-
  The law of firing: each timer goes off once, at its tick. No condition.
-/
import Derived.Test.YtjjlekohkoicbaaDoorArmed
import Derived.Test.YtjjlekohkoicbaaDoorInts
import Derived.WalkKit
import Derived.ProofKit
import Derived.Handy
import Derived.LoopTactic
import Derived.Below
import Derived.Laws.BitsAllLaws
import Derived.RegionTactic
import Derived.Deep.RegionHeld3
import Derived.Deep.DrawnRows
import Derived.Deep.AppendLies
import Derived.Laws.OwnMore
import Derived.Deep.Onto
import Derived.Deep.QuietTactic
import Derived.BigQuiet
namespace Go.Proofs.YtjjlekohkoicbaaDoor.Walks
open Go.RowKit
set_option linter.unusedVariables false
set_option linter.unusedSimpArgs false
attribute [local go_sem ↓] Go.wp_at_zero Go.wp_at_succ

/-- Who goes off at a tick, by number, of the first k. -/
def wantT (a : List Int) (x : Int) (k : Nat) : List Tm := ((List.range k).filter fun j => decide (a[j]? = some x)).map fun (j : Nat) => (x, (j : Int))

theorem wantT_snoc (a : List Int) (x : Int) (k : Nat) : wantT a x (k + 1) = wantT a x k ++ if a[k]? = some x then [(x, (k : Int))] else [] := by
  unfold wantT
  rw [List.range_succ, List.filter_append, List.map_append]
  by_cases h : a[k]? = some x <;> simp [h]

theorem wantT_len (a : List Int) (x : Int) (k : Nat) : (wantT a x k).length ≤ k := by
  unfold wantT
  rw [List.length_map]
  have := List.length_filter_le (fun j => decide (a[j]? = some x)) (List.range k)
  simpa using this

theorem wantT_ord (a : List Int) (x : Int) (k : Nat) : (wantT a x k).Pairwise (fun a b => cmpT a b < 0) := by
  unfold wantT
  rw [List.pairwise_map]
  refine (List.Pairwise.filter _ (List.pairwise_lt_range (n := k))).imp fun h => ?_
  rw [cmpT_lt]
  right
  exact ⟨rfl, by simpa using h⟩

theorem mem_wantT {a : List Int} {x : Int} {k : Nat} (hk : a.length = k) (t : Tm) : t ∈ wantT a x k ↔ ∃ (j : Nat) (h : j < a.length), t = (a[j], (j : Int)) ∧ a[j] = x := by
  unfold wantT
  simp only [List.mem_map, List.mem_filter, List.mem_range, decide_eq_true_eq]
  constructor
  · rintro ⟨j, ⟨h1, h2⟩, rfl⟩
    obtain ⟨h3, h4⟩ := List.getElem?_eq_some_iff.1 h2
    exact ⟨j, h3, by rw [h4], h4⟩
  · rintro ⟨j, h, rfl, e⟩
    exact ⟨j, ⟨by omega, by rw [List.getElem?_eq_getElem h, e]⟩, by rw [e]⟩

theorem off_want {n : Int} {a : List Int} {ls ms m1 : List (List Tm)} {L : List Tm} {now : Int} (hS : St n a ls) (hn : 0 ≤ n) (h0 : n ≤ now) (hmem : ∀ t, t ∈ ms.flatten ↔ t ∈ ls.flatten ∧ now < t.1) (hL : Later now ms m1 L) : L = wantT a (now + 1) 20 := by
  refine sorted_unique hL.ord (wantT_ord _ _ _) fun t => ?_
  rw [hL.off, hmem, hS.mem, mem_wantT hS.len]
  constructor
  · rintro ⟨⟨⟨j, h, rfl, _⟩, _⟩, e⟩
    exact ⟨j, h, rfl, e⟩
  · rintro ⟨j, h, rfl, e⟩
    exact ⟨⟨⟨j, h, rfl, by omega⟩, by show now < a[j]; omega⟩, e⟩

theorem idCells_eq (L : List Tm) : idCells L = icells (L.map (·.2)) := by simp [idCells, icells]

set_option maxHeartbeats 8000000 in
set_option maxRecDepth 100000 in
theorem fires_walk {w : World} (now : Int) (w0 : (Lit.int .i64 now).wf = true) (v : Value) (l : List Tm) (hAt : TmAt w v l) (hwf : ∀ t ∈ l, (Lit.int .i64 t.1).wf = true ∧ (Lit.int .i64 t.2).wf = true) (hlen : l.length ≤ 140737488351232 / 16) (ticks : Int) (w5 : (Lit.int .i64 ticks).wf = true) (hB : Blk w) :
    Calls Tryd.prog 6 #[.int .i64 now, v, .int .i64 ticks] w fun r w' => r = .returned (.bool true) ∧ Below w.heap.size w w' := by
  obtain ⟨i0, hi, hz0, hz1, hz2⟩ := info_parts infoInt
  obtain ⟨m, hm, HM⟩ := picked_some ticks 520 w5 (by omega) (by omega)
  have HC : Hid (_ ∧ _ ∧ _ ∧ _ ∧ _) := ⟨HM, hAt, hwf, hB, w0⟩
  obtain ⟨va, vc, rfl, _⟩ := hAt.parts
  clear HM hAt hwf hB w0 w5 hlen
  go_enter Tryd.func6, Tryd.ntmps6
  go_wp2_with fail
  refine (armed_any w now HC.out.2.2.2.2 _ l (fun W hW => HC.out.2.1.below hW) HC.out.2.2.1 HC.out.2.2.2.1).mono ?_
  rintro r w1 ⟨n, p, c, a, ls, rfl, hn, hO, hS, hb1⟩
  have HT : Hid (((w1.alloc (.cells #[.int .i64 n, .slice p 25 c] 24)).alloc (.cells (icells (List.replicate 20 0)).toArray 39)).there (w1.heap.size + 1) 0 (icells a).toArray.size ∧ (Tryd.prog.info? 39).map (·.size) = some (icells a).toArray.size) := by
    have h1 := (Arr.new (w1.alloc (.cells #[.int .i64 n, .slice p 25 c] 24)) 39 (List.replicate 20 0)).there
    rw [World.size_alloc, List.length_replicate] at h1
    have e : (icells a).toArray.size = 20 := by simp [icells_len, hS.len]
    rw [e]
    exact ⟨h1, info20⟩
  have H1 : Hid (_ ∧ _ ∧ _) := ⟨hO, hS, hb1⟩
  clear hO hS hb1
  have HT0 := H1.out.2.2
  obtain ⟨W0, hW0⟩ : ∃ W0, W0 = (((w1.alloc (.cells #[.int .i64 n, .slice p 25 c] 24)).alloc (.cells (icells (List.replicate 20 0)).toArray 39)).setCells (w1.heap.size + 1) 0 (icells a)) := ⟨_, rfl⟩
  have hb10 : Below w1.heap.size w1 W0 := by
    rw [hW0]
    have h1 : Below w1.heap.size w1 ((w1.alloc (.cells #[.int .i64 n, .slice p 25 c] 24)).alloc (.cells (icells (List.replicate 20 0)).toArray 39)) := ((Below.refl _ _).alloc (Nat.le_refl _) _).alloc (by simp) _
    exact below_setCells h1 (by omega) _ _ h1.size
  have hX0 : Bx W0 w1.heap.size n p c := by
    rw [hW0]
    exact (World.heap_setCells_other _ _ _ _ (by simp; omega) (by omega)).trans (heap_old _ _ (heap_alloc_new _ _))
  have hA0 : Arr 39 20 W0 (w1.heap.size + 1) a := by
    rw [hW0]
    have h1 := Arr.new (w1.alloc (.cells #[.int .i64 n, .slice p 25 c] 24)) 39 (List.replicate 20 0)
    rw [World.size_alloc, List.length_replicate] at h1
    exact (h1.store (P := Tryd.prog) H1.out.2.1.len info20).2
  obtain ⟨x0, x1, _, _, _⟩ := two_cells hX0
  have H2 : Hid (_ ∧ _ ∧ _ ∧ _ ∧ _) := ⟨hX0, hA0, H1.out.1.at.below hb10, HT0.trans (hb10.mono HT0.size), hW0⟩
  have hsw : w.heap.size ≤ w1.heap.size := HT0.size
  clear hX0 hA0 hb10 HT0
  rw [hW0, ← zeros20] at x0
  clear hW0
  go_wp2_with (first | (refine wpList_store_mid rfl 39 _ _ rfl (w1.heap.size + 1) 0 (icells a).toArray rfl rfl HT.out.1 HT.out.2 (all_oneCell_toArray (icells_one a)) ?_))
  rw [zeros20]
  rw [show (((w1.alloc (.cells #[.int .i64 n, .slice p 25 c] 24)).alloc (.cells (icells (List.replicate 20 0)).toArray 39)).setCells (w1.heap.size + 1) 0 (icells a)) = W0 from H2.out.2.2.2.2.symm]
  clear x0 x1 HT
  go_loopw [11] (fun t wr => ∃ (q : Nat) (p : Option Addr) (c : Nat) (ms : List (List Tm)), t = .int .i64 (q + 1) ∧ q ≤ m ∧ Bx wr w1.heap.size (n + q) p c ∧ Arr 39 20 wr (w1.heap.size + 1) a ∧ LsAt wr (.slice p 25 c) ms ∧ May (n + q) ms ∧ (∀ t, t ∈ ms.flatten ↔ t ∈ ls.flatten ∧ (n : Int) + q < t.1) ∧ Below w.heap.size w wr) (fun t _ => m + 1 - (intOf t).toNat)
  case atStart =>
    obtain ⟨h1, h2, h3, h4, _⟩ := H2.out
    refine ⟨0, p, c, ls, by simp, Nat.zero_le _, by simpa using h1, h2, h3, by simpa using H1.out.2.1.may, fun t => ⟨fun ht => ⟨ht, ?_⟩, fun ht => ht.1⟩, h4⟩
    have := (fitsT_iff _ _).1 (H1.out.2.1.may.2.mem_fits ht)
    omega
  case round =>
    obtain ⟨q, p, c, ms, rfl, hq, hX, hA, hL, hM, hmem, hbr⟩ := hrel
    by_cases hqm : q < m
    · obtain ⟨d0, d1, df0, df1, dlt⟩ := two_cells hX
      have HR : Hid (_ ∧ _ ∧ _ ∧ _ ∧ _ ∧ _) := ⟨hX, hA, hL, hM, hmem, hbr⟩
      clear hX hA hL hM hmem hbr
      have hqI : (q : Int) + 1 ≤ (m : Int) := by omega
      go_wp2_with fail
      refine (HC.out.1 _).mono ?_
      rintro r w6 ⟨rfl, rfl⟩
      go_wp2_with fail
      obtain ⟨hX, hA, hL, hM, hmem, hbr⟩ := HR.out
      refine (advance_fine _ (n + q) ms _ (HC.out.2.2.2.1.below hbr) hL hM (by omega)).mono ?_
      rintro r w7 ⟨p4, c4, xp, xc, m1, L1, rfl, hO4, hT4, hx4, hb7⟩
      have hLw := off_want H1.out.2.1 (by omega) (by omega) hmem hT4
      have hX7 := hX.below hb7
      have hA7 := hA.below hb7
      obtain ⟨e0, e1, ef0, ef1, elt⟩ := two_cells hX7
      obtain ⟨W8, hW8⟩ : ∃ W8, W8 = w7.alloc (.cells #[.int .i64 (n + q + 1), .slice p4 25 c4] 24) := ⟨_, rfl⟩
      have hb8 : Below w7.heap.size w7 W8 := by rw [hW8]; exact (Below.refl _ _).alloc (Nat.le_refl _) _
      have hXn : Bx W8 w7.heap.size (n + q + 1) p4 c4 := by rw [hW8]; exact Bx.new _ _ _ _
      have hbw8 := (hbr.trans (hb7.mono hbr.size)).trans (hb8.mono (hbr.trans (hb7.mono hbr.size)).size)
      have hxr := (rowAt_own hx4).below hb8
      have hl200 := hT4.len
      have H7 : Hid (_ ∧ _ ∧ _ ∧ _ ∧ _ ∧ _ ∧ _ ∧ _ ∧ _) := ⟨hO4.below hb8, hT4, hX7.below hb8, hA7.below hb8, hbw8, hXn, hxr, hLw, hW8⟩
      have hlt7 : w1.heap.size < w7.heap.size := hX7.lt
      have hne : (((n : Int) + q + 1) != n + (q + 1)) = false := by simp; omega
      clear hX hA hL hM hmem hbr hO4 hT4 hX7 hA7 hb7 hb8 hXn hbw8 hxr hLw hx4 d0 d1 df0 df1 hW8
      go_wp2_with fail
      rw [← H7.out.2.2.2.2.2.2.2.2]
      go_loopw [15, 16] (fun v i wr => ∃ k : Nat, i = .int .i64 k ∧ k ≤ 20 ∧ wr.ownsRow W8.heap.size 3 1 v (wantT a (n + q + 1) k).length (idCells (wantT a (n + q + 1) k)) ∧ Below W8.heap.size W8 wr) (fun _ i _ => 20 - (intOf i).toNat)
      case atStart => exact ⟨0, rfl, Nat.zero_le _, World.ownsRow_nil _ _ _ _, Below.refl _ _⟩
      case round =>
        obtain ⟨k, rfl, hk, hrow, hbk⟩ := hrel
        by_cases hk20 : k < 20
        · have hka : k < a.length := by rw [H1.out.2.1.len]; exact hk20
          have r1 := (H7.out.2.2.2.1.below hbk).cell k hka
          have hsn := wantT_snoc a (n + q + 1) k
          rw [List.getElem?_eq_getElem hka] at hsn
          generalize a[k] = av at *
          have hkI : (k : Int) < 20 := by omega
          have hkd : decide ((k : Int) < 20) = true := decide_eq_true hkI
          have hwl := wantT_len a (n + q + 1) k
          have hks := hbk.size
          by_cases he : av = (n : Int) + q + 1
          · rw [if_pos (by rw [he])] at hsn
            have heq : (av == (n : Int) + (q + 1)) = true := by simp; omega
            have HK : Hid (_ ∧ _ ∧ _) := ⟨hrow, hbk, hsn⟩
            have HN : Hid (∀ j y, [Value.int .i64 (k : Int)][j]? = some y → (wr.alloc (.cells #[.int .i64 (k : Int)] 3)).cell? ((⟨wr.heap.size, 0, none⟩ : Addr).add j) = some y) := news_at wr [.int .i64 (k : Int)] 3
            clear hrow hbk hsn he
            go_wp2_with (first | (at_builtin; refine wpList_append_lies _ rfl _ _ 33 rfl W8.heap.size 3 i0 _ 1 8 Tryd.underlying33 hi hz0 hz1 hz2 rfl (by decide) u15 _ _ rfl (HK.out.1.alloc _) _ 1 1 [.int .i64 (k : Int)] rfl rfl HN.out (by intro y hy; rw [List.mem_singleton.1 hy]; rfl) (by decide) (by unfold maxLen; omega) (by omega) (by simp; omega) _ rfl ?_; intro g' cap w2 hown2 hg2 hlies hlt2))
            go_wp2
            go_roundw
            case rel =>
              refine ⟨k + 1, by simp, hk20, ?_, ?_⟩
              · rw [HK.out.2.2]
                simpa [idCells] using hown2
              · have h1 := HK.out.2.1.alloc HK.out.2.1.size (.cells #[.int .i64 (k : Int)] 3)
                exact h1.grown hg2 h1.size (fun j e => (HK.out.1.lt j e).1)
            case measure => simp [intOf]; omega
          · rw [if_neg (by simpa using he), List.append_nil] at hsn
            have heq : (av == (n : Int) + (q + 1)) = false := by simp; omega
            have HK : Hid (_ ∧ _ ∧ _) := ⟨hrow, hbk, hsn⟩
            clear hrow hbk hsn he
            go_wp2
            go_roundw
            case rel => exact ⟨k + 1, by simp, hk20, by rw [HK.out.2.2]; exact HK.out.1, HK.out.2.1⟩
            case measure => simp [intOf]; omega
        · obtain rfl : k = 20 := by omega
          obtain ⟨h1, h2, h3, h4, h5, h6, h7, h8, _⟩ := H7.out
          obtain ⟨f0, f1, ff0, ff1, flt⟩ := two_cells (h3.below hbk)
          obtain ⟨y0, y1, _, _, _⟩ := two_cells (h6.below hbk)
          have hsm := keepInts (.slice xp L1.length xc) u15 (L1.map (·.2)) wr (by rw [List.length_map, ← idCells_eq]; exact h7.below hbk) (by rw [List.length_map, ← idCells_eq, h8]; exact rowAt_own hrow)
          have HK : Hid (_ ∧ _) := ⟨hsm, hbk⟩
          clear hsm hbk hrow h1 h2 h3 h4 h5 h6 h7 h8
          go_wp2_with fail
          refine HK.out.1.mono ?_
          rintro r w9 ⟨rfl, dq, rfl⟩
          go_wp2
          go_roundw
          case rel =>
            obtain ⟨h1, h2, h3, h4, h5, h6, h7, h8, _⟩ := H7.out
            have hbk := below_drewN HK.out.2 dq
            have hc : ((n : Int) + ((q + 1 : Nat) : Int)) = n + q + 1 := by omega
            have hbw := h5.trans (hbk.mono h5.size)
            refine ⟨q + 1, p4, c4, m1, by simp, hqm, ?_, ?_, ?_, ?_, fun t => ?_, below_set2 hbw hsw _ _⟩
            · rw [hc]; exact (h3.below hbk).set
            · exact ((h4.below hbk).other (by simp) _).other (by simp) _
            · exact ((h1.below hbk).set2 dlt _ _).at
            · rw [hc]; exact h2.may
            · rw [h2.left, HR.out.2.2.2.2.1]
              constructor
              · rintro ⟨⟨h, h'⟩, h''⟩
                exact ⟨h, by omega⟩
              · rintro ⟨h, h'⟩
                exact ⟨⟨h, by omega⟩, by omega⟩
          case measure => simp [intOf]; omega
    · obtain rfl : q = m := by omega
      have HR : Hid _ := hbr
      have hqI : ¬ (q : Int) + 1 ≤ (q : Int) := by omega
      clear hX hA hL hM hmem hbr
      go_wp2_with fail
      refine (HC.out.1 _).mono ?_
      rintro r w6 ⟨rfl, rfl⟩
      go_wp2
      go_ret
      exact ⟨rfl, HR.out⟩
end Go.Proofs.YtjjlekohkoicbaaDoor.Walks
