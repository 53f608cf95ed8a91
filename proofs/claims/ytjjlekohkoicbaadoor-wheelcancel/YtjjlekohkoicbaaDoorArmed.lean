/-
  A wheel armed with alarms: what it holds, and when each timer goes off. The alarms can be read.
-/
import Derived.Test.YtjjlekohkoicbaaDoorArr
import Derived.WalkKit
import Derived.ProofKit
import Derived.Handy
import Derived.LoopTactic
import Derived.Below
import Derived.Laws.BitsAllLaws
import Derived.RegionTactic
import Derived.Deep.RegionHeld3
import Derived.Deep.DrawnRows
import Derived.Deep.AppendLies
import Derived.Laws.OwnMore
import Derived.Deep.Onto
import Derived.Deep.QuietTactic
import Derived.BigQuiet
namespace Go.Proofs.YtjjlekohkoicbaaDoor.Walks
open Go.RowKit
set_option linter.unusedVariables false
set_option linter.unusedSimpArgs false
attribute [local go_sem ↓] Go.wp_at_zero Go.wp_at_succ

/-- What armed leaves: the ticks by number, and the wheel that holds just those. -/
structure St (n : Int) (a : List Int) (ls : List (List Tm)) : Prop where
  len : a.length = 20
  may : May n ls
  bnd : ∀ x ∈ a, x = 0 ∨ n < x ∧ x ≤ n + 500
  mem : ∀ t, t ∈ ls.flatten ↔ ∃ (j : Nat) (h : j < a.length), t = (a[j], (j : Int)) ∧ 0 < a[j]

theorem st_bare (n : Nat) (hn : n < 3000) : St n (List.replicate 20 0) bare := by
  refine ⟨by simp, may_bare _ (by omega) (by omega), fun x hx => .inl (List.mem_replicate.1 hx).2, fun t => ?_⟩
  constructor
  · intro h; simp [bare] at h
  · rintro ⟨j, h, _, h2⟩
    rw [List.getElem_replicate] at h2
    exact absurd h2 (by omega)

theorem St.free {n : Int} {a : List Int} {ls : List (List Tm)} (h : St n a ls) {i : Nat} (hi : i < a.length) (h0 : ¬ 0 < a[i]) : ∀ t ∈ ls.flatten, t.2 ≠ (i : Int) := by
  intro t ht e
  obtain ⟨j, hj, rfl, hp⟩ := (h.mem t).1 ht
  have hji : (j : Int) = (i : Int) := e
  have : j = i := by omega
  subst this
  exact h0 hp

theorem St.fit {n : Int} {a : List Int} {ls : List (List Tm)} (h : St n a ls) (hn : n < 3000) {i : Nat} (hi : i < 20) (x : Nat) (hx : x < 500) : fitsT n (n + 1 + x, (i : Int)) = true := fits_of (by omega) (by omega) (by omega) (by omega) (by omega)

theorem St.step {n : Int} {a : List Int} {ls : List (List Tm)} (h : St n a ls) (hn0 : 0 ≤ n) (hn : n < 3000) {i : Nat} (hi : i < a.length) (h0 : ¬ 0 < a[i]) (x : Nat) (hx : x < 500) : St n (a.set i (n + 1 + x)) (addT ls n (n + 1 + x, (i : Int))) := by
  have hl := h.len
  refine ⟨by rw [List.length_set]; exact hl, h.may.add (h.fit hn (by omega) x hx) (h.free hi h0), fun y hy => ?_, fun t => ?_⟩
  · rcases List.mem_or_eq_of_mem_set hy with hy | rfl
    · exact h.bnd y hy
    · exact .inr ⟨by omega, by omega⟩
  · rw [mem_add h.may.2, h.mem]
    constructor
    · rintro (rfl | ⟨j, hj, rfl, hp⟩)
      · exact ⟨i, by rw [List.length_set]; exact hi, by simp, by simp; omega⟩
      · have hji : j ≠ i := fun e => by subst e; exact h0 hp
        exact ⟨j, by rw [List.length_set]; exact hj, by rw [List.getElem_set_ne (Ne.symm hji)], by rw [List.getElem_set_ne (Ne.symm hji)]; exact hp⟩
    · rintro ⟨j, hj, rfl, hp⟩
      rw [List.length_set] at hj
      by_cases hji : j = i
      · subst hji
        left
        simp
      · right
        rw [List.getElem_set_ne (Ne.symm hji)] at hp ⊢
        exact ⟨j, hj, rfl, hp⟩

theorem OwnW.keep {w w' : World} {base c : Nat} {p : Option Addr} {ls : List (List Tm)} (h : OwnW w base p c ls) (hk : ∀ g, base ≤ g → g < w.heap.size → w'.heap[g]? = w.heap[g]?) : OwnW w' base p c ls := h.elim fun vs h => ⟨vs, h.keep hk⟩
theorem OwnW.put {w : World} {base c : Nat} {p : Option Addr} {ls : List (List Tm)} (h : OwnW w base p c ls) {q : Addr} (hq : q.block < base) (x : Value) : OwnW (w.setCell q x) base p c ls := h.keep fun g h1 _ => Below.heap_setCell _ _ _ _ (by omega)
theorem OwnW.puts {w : World} {base c g : Nat} {p : Option Addr} {ls : List (List Tm)} (h : OwnW w base p c ls) (hq : g < base) (o : Nat) (vs : List Value) : OwnW (w.setCells g o vs) base p c ls := h.keep fun i h1 h2 => World.heap_setCells_other w g o vs h2 (by omega)

theorem bcell {W w1 : World} (hb : Below W.heap.size W w1) : (∀ b o, b < W.heap.size → w1.cell? ⟨b, o, none⟩ = W.cell? ⟨b, o, none⟩) ∧ (∀ b o, b < W.heap.size → w1.frozen? ⟨b, o, none⟩ = W.frozen? ⟨b, o, none⟩) :=
  ⟨fun b o h => hb.cell (p := ⟨b, o, none⟩) h, fun b o h => hb.frozen (p := ⟨b, o, none⟩) h⟩

theorem held3 {w w' : World} {a1 a2 a3 : Addr} {v1 v2 v3 : Value} (h1 : w.cell? a1 = some v1) (h2 : w.cell? a2 = some v2) (h3 : w.cell? a3 = some v3) (hb : Below w.heap.size w w') : w'.cell? a1 = some v1 ∧ w'.cell? a2 = some v2 ∧ w'.cell? a3 = some v3 ∧ Below w.heap.size w w' :=
  ⟨(hb.cell (World.block_lt_of_cell? w _ h1)).trans h1, (hb.cell (World.block_lt_of_cell? w _ h2)).trans h2, (hb.cell (World.block_lt_of_cell? w _ h3)).trans h3, hb⟩

theorem info20 : (Tryd.prog.info? 39).map (·.size) = some 20 := by kernel_rfl
theorem zeros20 : (#[.int .i64 0, .int .i64 0, .int .i64 0, .int .i64 0, .int .i64 0, .int .i64 0, .int .i64 0, .int .i64 0, .int .i64 0, .int .i64 0, .int .i64 0, .int .i64 0, .int .i64 0, .int .i64 0, .int .i64 0, .int .i64 0, .int .i64 0, .int .i64 0, .int .i64 0, .int .i64 0] : Array Value) = (icells (List.replicate 20 0)).toArray := rfl

set_option maxHeartbeats 8000000 in
set_option maxRecDepth 100000 in
theorem armed_any (w : World) (now : Int) (w0 : (Lit.int .i64 now).wf = true) (v : Value) (l : List Tm) (hAt : ∀ W : World, Below w.heap.size w W → TmAt W v l) (hwf : ∀ t ∈ l, (Lit.int .i64 t.1).wf = true ∧ (Lit.int .i64 t.2).wf = true) (hB : Blk w) :
    Calls Tryd.prog 17 #[.int .i64 now, v] w fun r w' => ∃ (n : Nat) (p : Option Addr) (c : Nat) (a : List Int) (ls : List (List Tm)), r = .returned (.tuple #[.agg #[.int .i64 n, .slice p 25 c], .agg (icells a).toArray, .bool true]) ∧ n < 3000 ∧ OwnW w' w.heap.size p c ls ∧ St n a ls ∧ Below w.heap.size w w' := by
  obtain ⟨n, hn, HN⟩ := picked_some now 3000 w0 (by omega) (by omega)
  obtain ⟨va, vc, rfl, hvc, hvm, pv⟩ := (hAt w (Below.refl _ _)).parts
  unfold maxLen at hvm
  have HC : Hid (_ ∧ _ ∧ _ ∧ _ ∧ _) := ⟨HN, hAt, hwf, hB, pv⟩
  clear HN hAt hwf hB w0 pv
  go_enter Tryd.func17, Tryd.ntmps17
  go_wp2_with fail
  refine (HC.out.1 _).mono ?_
  rintro r w1 ⟨rfl, rfl⟩
  go_wp2_with fail
  refine (new_fine n _ (by omega) (by omega)).mono ?_
  rintro r w1 ⟨p0, c0, rfl, hO0, hb1⟩
  rw [zeros20] at hb1
  have hs0 := hb1.size
  simp only [World.size_alloc] at hs0
  have hbw1 : Below w.heap.size w w1 := ((((Below.refl _ _).alloc (Nat.le_refl _) _).alloc (by simp) _).alloc (by simp; omega) _).trans (hb1.mono (by simp; omega))
  have hR4 : w1.heap[w.heap.size]? = some (.cells #[.int .i64 0, .slice none 0 0] 24 (0, 0)) := (hb1.block _ (by simp; omega)).trans (heap_old _ _ (heap_old _ _ (heap_alloc_new _ _)))
  have hA5 : Arr 39 20 w1 (w.heap.size + 1) (List.replicate 20 0) := ⟨(hb1.block _ (by simp)).trans (heap_old _ _ (heap_second _ _ _)), by simp⟩
  have hA7 : Arr 39 20 w1 (w.heap.size + 1 + 1) (List.replicate 20 0) := ⟨(hb1.block _ (by simp)).trans (by have := heap_second (w.alloc (.cells #[.int .i64 0, .slice none 0 0] 24)) (.cells (icells (List.replicate 20 0)).toArray 39) (.cells (icells (List.replicate 20 0)).toArray 39); simpa using this), by simp⟩
  have hN : Below w1.heap.size w1 (w1.alloc (.cells #[.int .i64 n, .slice p0 25 c0] 24)) := (Below.refl _ _).alloc (Nat.le_refl _) _
  have hO1 : OwnW w1 (w.heap.size + 3) p0 c0 bare := hO0.mono (by simp)
  have H1 : Hid (_ ∧ _ ∧ _ ∧ _ ∧ _ ∧ _) := ⟨heap_old _ (.cells #[.int .i64 n, .slice p0 25 c0] 24) hR4, hA5.below hN, hA7.below hN, Bx.new w1 n p0 c0, hO1.below hN, hbw1.trans (hN.mono hbw1.size)⟩
  clear hR4 hA5 hA7 hO0 hO1 hb1 hbw1 hN
  go_wp2_with fail
  go_loopw [11] (fun t wr => ∃ (q : Nat) (p : Option Addr) (c : Nat) (a : List Int) (ls : List (List Tm)), t = .int .i64 q ∧ q ≤ l.length ∧ q ≤ 40 ∧ wr.heap[w.heap.size]? = some (.cells #[.int .i64 0, .slice none 0 0] 24 (0, 0)) ∧ Arr 39 20 wr (w.heap.size + 1) (List.replicate 20 0) ∧ Arr 39 20 wr (w.heap.size + 1 + 1) a ∧ Bx wr w1.heap.size n p c ∧ OwnW wr (w.heap.size + 3) p c ls ∧ St n a ls ∧ Below w.heap.size w wr) (fun t _ => l.length - (intOf t).toNat)
  case atStart =>
    obtain ⟨h1, h2, h3, h4, h5, h6⟩ := H1.out
    exact ⟨0, p0, c0, _, _, rfl, Nat.zero_le _, Nat.zero_le _, h1, h2, h3, h4, h5, st_bare n hn, h6⟩
  case round =>
    obtain ⟨q, p, c, a, ls, rfl, hq, hq40, hR4, hA5, hA7, hX, hO, hS, hbr⟩ := hrel
    by_cases hlt : q < l.length ∧ q < 40
    · obtain ⟨hl1, hl2⟩ := hlt
      obtain ⟨b0, off, rfl, hb0, e1, e2⟩ := HC.out.2.2.2.2 q hl1
      have f1 := (hbr.cell (p := ⟨b0, off + q * 2, none⟩) hb0).trans e1
      have f2 := (hbr.cell (p := ⟨b0, off + q * 2 + 1, none⟩) hb0).trans e2
      have hwq := HC.out.2.2.1 l[q] (List.getElem_mem hl1)
      obtain ⟨j, hj, HJ⟩ := picked_some l[q].1 20 hwq.1 (by omega) (by omega)
      obtain ⟨x, hx, HX⟩ := picked_some l[q].2 500 hwq.2 (by omega) (by omega)
      generalize l[q].1 = lid at *
      generalize l[q].2 = lin at *
      have hja : j < a.length := by rw [hS.len]; exact hj
      have g1 := hA7.cell j hja
      have g2 := hA7.frozen j
      obtain ⟨d0, d1, df0, df1, dlt⟩ := two_cells hX
      have hb0n : b0 < w.heap.size := hb0
      have HR : Hid (_ ∧ _ ∧ _ ∧ _ ∧ _ ∧ _ ∧ _ ∧ _ ∧ _) := ⟨hR4, hA5, hA7, hX, hO, hS, hbr, HJ, HX⟩
      clear hR4 hA5 hA7 hX hO hS hbr HJ HX e1 e2 hb0 hwq
      generalize hy : a[j] = y at *
      have HYy : Hid _ := hy
      clear hy
      have hl1I : (q : Int) < (l.length : Int) := by omega
      have hl2I : (q : Int) < 40 := by omega
      have hjI : (j : Int) < 20 := by omega
      by_cases hpos : 0 < y
      · go_wp2_with fail
        refine (HR.out.2.2.2.2.2.2.2.1 _).mono ?_
        rintro r w3 ⟨rfl, rfl⟩
        go_wp2
        go_roundw
        case rel =>
          obtain ⟨h1, h2, h3, h4, h5, h6, h7, _, _⟩ := HR.out
          exact ⟨q + 1, p, c, a, ls, by simp, hl1, hl2, h1, h2, h3, h4, h5, h6, h7⟩
        case measure => simp [intOf]; omega
      · go_wp2_with fail
        refine (HR.out.2.2.2.2.2.2.2.1 _).mono ?_
        rintro r w3 ⟨rfl, rfl⟩
        go_wp2_with fail
        refine (HR.out.2.2.2.2.2.2.2.2 _).mono ?_
        rintro r w3 ⟨rfl, rfl⟩
        go_wp2_with fail
        obtain ⟨W3, hW3⟩ : ∃ W3, W3 = w3.setCell ⟨w.heap.size + 1 + 1, j, none⟩ (.int .i64 (n + 1 + x)) := ⟨_, rfl⟩
        rw [← hW3]
        obtain ⟨hR4, hA5, hA7, hX, hO, hS, hbr, _, _⟩ := HR.out
        have hs1 : w.heap.size + 3 ≤ w1.heap.size := by omega
        have hR4' : W3.heap[w.heap.size]? = some (.cells #[.int .i64 0, .slice none 0 0] 24 (0, 0)) := by rw [hW3]; exact (Below.heap_setCell _ _ _ _ (by simp; omega)).trans hR4
        have hA5' : Arr 39 20 W3 (w.heap.size + 1) (List.replicate 20 0) := by rw [hW3]; exact hA5.other (by simp) _
        have hA7' : Arr 39 20 W3 (w.heap.size + 1 + 1) (a.set j (n + 1 + x)) := by rw [hW3]; exact hA7.set j _
        have hX' : Bx W3 w1.heap.size n p c := by rw [hW3]; exact (Below.heap_setCell _ _ _ _ (by simp; omega)).trans hX
        have hO' : OwnW W3 (w.heap.size + 3) p c ls := by rw [hW3]; exact hO.put (by simp) _
        have hbr' : Below w.heap.size w W3 := by rw [hW3]; exact hbr.setCell (by simp; omega) _
        have hy0 : ¬ 0 < a[j] := by rw [HYy.out]; omega
        have g3 : W3.cell? ⟨w.heap.size + 1 + 1, j, none⟩ = some (.int .i64 (n + 1 + x)) := by
          have := hA7'.cell j (by rw [List.length_set]; exact hja)
          rwa [List.getElem_set_self] at this
        obtain ⟨t0, t1, _, _, tlt⟩ := two_cells hX'
        have HA : Hid (∀ W, Below W3.heap.size W3 W → Calls Tryd.prog 9 #[.agg #[.int .i64 n, .slice p 25 c], .int .i64 j, .int .i64 (n + 1 + x)] W fun r w' => ∃ p' c', r = .returned (.tuple #[.agg #[.int .i64 n, .slice p' 25 c'], .int .i64 0]) ∧ OwnW w' W.heap.size p' c' (addT ls n (n + 1 + x, (j : Int))) ∧ Below W.heap.size W w' ∧ Below W3.heap.size W3 W) := fun W hW =>
          (arm_fine _ n j (n + 1 + x) ls W (HC.out.2.2.2.1.below (hbr'.trans (hW.mono hbr'.size))) (hO'.at.below hW) hS.may (hS.fit (by omega) hj x hx) (hS.free hja hy0)).mono fun r w' ⟨p', c', h1, h2, h3, h4⟩ => ⟨p', c', h1, h2, h4, hW⟩
        have hSt := hS.step (by omega) (by omega) hja hy0 x hx
        have H3 : Hid (_ ∧ _ ∧ _ ∧ _ ∧ _ ∧ _) := ⟨hR4', hA5', hA7', hX', hSt, hbr'⟩
        have hs3 := tlt
        have hlt7 : w.heap.size + 1 + 1 < W3.heap.size := by omega
        clear hR4 hA5 hA7 hX hO hS hbr hR4' hA5' hA7' hX' hO' hbr' hSt hW3 d0 d1 df0 df1 g1 g2 f1 f2
        go_upto_region 12 with fail
        go_cut [13, 14] from 32 to 76 (fun b e wx => ∃ p' c' g, b = .pointer (some ⟨g, 0, none⟩) ∧ e = .int .i64 0 ∧ Bx wx g n p' c' ∧ OwnW wx W3.heap.size p' c' (addT ls n (n + 1 + x, (j : Int))) ∧ Below W3.heap.size W3 wx ∧ W3.heap.size ≤ g)
        case first =>
          go_region_with (first | (go_at_call 9; refine (HA.out _ (by first | exact (Below.refl _ _).drew | exact ((Below.refl _ _).drew).alloc (by simp) _ | exact ((Below.refl _ _).alloc (Nat.le_refl _) _).drew)).mono ?_; rintro r w4 ⟨p', c', rfl, hO4, hb4, hb3⟩; obtain ⟨hc4, hf4⟩ := bcell hb4))
          all_goals
            go_wp2_with fail
            go_meet
            first
            | exact ⟨p', c', w4.heap.size, rfl, rfl, Bx.new _ _ _ _, (hO4.below ((Below.refl _ _).alloc (Nat.le_refl _) _)).mono hb3.size, (hb3.trans (hb4.mono hb3.size)).alloc (Nat.le_trans hb3.size hb4.size) _, Nat.le_trans hb3.size hb4.size⟩
            | exact ⟨p', c', W3.heap.size, rfl, rfl, two_set ((hb4.block W3.heap.size (by simp)).trans (heap_alloc_new W3 _)), (hO4.set2 (by simp) _ _).mono hb3.size, below_set2 (hb3.trans (hb4.mono hb3.size)) (Nat.le_refl _) _ _, Nat.le_refl _⟩
        case rest =>
        obtain ⟨p', c', g, rfl, rfl, hXg, hO4, hb4, hg⟩ := hcut
        obtain ⟨hR4', hA5', hA7', hX', hSt, hbr'⟩ := H3.out
        obtain ⟨z0, z1, _, _, _⟩ := two_cells hXg
        obtain ⟨y0, y1, yf0, yf1, _⟩ := two_cells (hX'.below hb4)
        have H5 : Hid (_ ∧ _ ∧ _ ∧ _ ∧ _ ∧ _ ∧ _) := ⟨(hb4.block _ (Array.getElem?_eq_some_iff.1 hR4').1).trans hR4', hA5'.below hb4, hA7'.below hb4, hX'.below hb4, hO4, hSt, hbr'.trans (hb4.mono hbr'.size)⟩
        clear hXg hO4 hb4 hR4' hA5' hA7' hX' hSt hbr' t0 t1 g3
        go_wp2
        go_roundw
        case rel =>
          obtain ⟨h1, h2, h3, h4, h5, h6, h7⟩ := H5.out
          refine ⟨q + 1, p', c', _, _, by simp, hl1, hl2, ?_, ?_, ?_, h4.set, (h5.set2 (by omega) _ _).mono (by omega), h6, below_set2 h7 (by omega) _ _⟩
          · rw [Below.heap_setCell _ _ _ _ (by simp; omega), Below.heap_setCell _ _ _ _ (by simp; omega)]; exact h1
          · exact (h2.other (by simp; omega) _).other (by simp; omega) _
          · exact (h3.other (by simp; omega) _).other (by simp; omega) _
        case measure => simp [intOf]; omega
    · obtain ⟨d0, d1, df0, df1, dlt⟩ := two_cells hX
      obtain ⟨r0, r1, rf0, rf1, rlt⟩ := two_cells hR4
      have hcmp : (l.length : Int) ≤ (q : Int) ∨ ((q : Int) < (l.length : Int) ∧ (40 : Int) ≤ (q : Int)) := by omega
      have HR : Hid (_ ∧ _ ∧ _ ∧ _ ∧ _ ∧ _ ∧ _) := ⟨hR4, hA5, hA7, hX, hO, hS, hbr⟩
      clear hR4 hA5 hA7 hX hO hS hbr hlt
      obtain ⟨hR4, hA5, hA7, hX, hO, hS, hbr⟩ := HR.out
      obtain ⟨w2, hw2⟩ : ∃ w2, w2 = (wr.setCell ⟨w.heap.size, 0, none⟩ (.int .i64 n)).setCell ⟨w.heap.size, 1, none⟩ (.slice p 25 c) := ⟨_, rfl⟩
      have hA7' : Arr 39 20 w2 (w.heap.size + 1 + 1) a := by rw [hw2]; exact (hA7.other (by simp; omega) _).other (by simp; omega) _
      have hA5' : Arr 39 20 w2 (w.heap.size + 1) (List.replicate 20 0) := by rw [hw2]; exact (hA5.other (by simp) _).other (by simp) _
      have hR4' : w2.heap[w.heap.size]? = some (.cells #[.int .i64 n, .slice p 25 c] 24 (0, 0)) := by rw [hw2]; exact two_set hR4
      have hw2' := hw2
      have hA5'' := ((show Arr 39 20 w2.drew (w.heap.size + 1) (List.replicate 20 0) from hA5').store (P := Tryd.prog) (b := a) hS.len info20).2
      have hA7'' : Arr 39 20 (w2.drew.setCells (w.heap.size + 1) 0 (icells a)) (w.heap.size + 1 + 1) a := hA7'.keep (World.heap_setCells_other w2.drew _ _ _ hA7'.lt (by omega))
      have hX2 : Bx w2 w1.heap.size n p c := by rw [hw2]; exact hX.other (by omega) _ _
      have hX3 : Bx (w2.drew.setCells (w.heap.size + 1) 0 (icells a)) w1.heap.size n p c := (World.heap_setCells_other w2.drew _ _ _ hX2.lt (by omega)).trans hX2
      have F1 : wr.cell? ⟨w1.heap.size, 0, none⟩ = some (.int .i64 n) ∧ wr.cell? ⟨w1.heap.size, 1, none⟩ = some (.slice p 25 c) ∧ wr.rangeAt (w.heap.size + 1 + 1) 0 (icells a) ∧ wr.there (w.heap.size + 1) 0 20 := ⟨d0, d1, hA7.range, hA5.there⟩
      have F2 : w2.cell? ⟨w1.heap.size, 0, none⟩ = some (.int .i64 n) ∧ w2.cell? ⟨w1.heap.size, 1, none⟩ = some (.slice p 25 c) ∧ w2.rangeAt (w.heap.size + 1 + 1) 0 (icells a) ∧ w2.there (w.heap.size + 1) 0 20 := ⟨(two_cells hX2).1, (two_cells hX2).2.1, hA7'.range, hA5'.there⟩
      have F3 : (w2.drew.setCells (w.heap.size + 1) 0 (icells a)).cell? ⟨w1.heap.size, 0, none⟩ = some (.int .i64 n) ∧ (w2.drew.setCells (w.heap.size + 1) 0 (icells a)).cell? ⟨w1.heap.size, 1, none⟩ = some (.slice p 25 c) ∧ (w2.drew.setCells (w.heap.size + 1) 0 (icells a)).rangeAt (w.heap.size + 1 + 1) 0 (icells a) ∧ (w2.drew.setCells (w.heap.size + 1) 0 (icells a)).there (w.heap.size + 1) 0 20 := ⟨(two_cells hX3).1, (two_cells hX3).2.1, hA7''.range, hA5''.there⟩
      rw [hw2] at F2 F3
      have G1 : Hid _ := F1
      have G2 : Hid _ := F2
      have G3 : Hid _ := F3
      have hu20 := Tryd.underlying39
      have hi20 : (Tryd.prog.info? 39).map (·.size) = some (icells a).length := by rw [info20, icells_len, hS.len]
      have hl20 : (icells a).length = 20 := by rw [icells_len, hS.len]
      have ho20 := icells_one a
      have hR4'' : (w2.drew.setCells (w.heap.size + 1) 0 (icells a)).heap[w.heap.size]? = some (.cells #[.int .i64 n, .slice p 25 c] 24 (0, 0)) := (World.heap_setCells_other w2.drew _ _ _ (Array.getElem?_eq_some_iff.1 hR4').1 (by omega)).trans hR4'
      have hO2 : OwnW (w2.drew.setCells (w.heap.size + 1) 0 (icells a)) (w.heap.size + 3) p c ls := OwnW.puts (w := w2.drew) (by have := hO.set2 (g := w.heap.size) (by omega) (.int .i64 n) (.slice p 25 c); rw [← hw2] at this; exact this.keep (fun _ _ _ => rfl)) (by omega) _ _
      have hb2 : Below w.heap.size w (w2.drew.setCells (w.heap.size + 1) 0 (icells a)) := by
        have h1 : Below w.heap.size w w2.drew := by rw [hw2]; exact (below_set2 hbr (Nat.le_refl _) _ _).drew
        exact below_setCells h1 (by omega) _ _ h1.size
      rw [hw2] at hA5'' hR4'' hO2 hb2
      have H9 : Hid (_ ∧ _ ∧ _ ∧ _ ∧ _) := ⟨hA5'', hR4'', hO2, hb2, hS⟩
      clear hR4 hA5 hA7 hX hO hS hbr hA7' hA5' hA7'' hA5'' hX2 hX3 hR4' hR4'' hO2 hb2 hw2 hw2' F1 F2 F3
      rcases hcmp with h1 | ⟨h1, h2⟩
      all_goals
        go_wp2
        go_region_held3 (fun W => W.cell? ⟨w1.heap.size, 0, none⟩ = some (.int .i64 n) ∧ W.cell? ⟨w1.heap.size, 1, none⟩ = some (.slice p 25 c) ∧ W.rangeAt (w.heap.size + 1 + 1) 0 (icells a) ∧ W.there (w.heap.size + 1) 0 20) (first | exact G1.out | exact G2.out | exact G3.out) (fail)
        all_goals go_wp2
        all_goals
          obtain ⟨hA, hR, hO2, hb2, hS⟩ := H9.out
          have hV := hA.loadV Tryd.underlying39 rfl info20
          have hU := load_row (P := Tryd.prog) (cs := [.int .i64 n, .slice p 25 c]) hR Tryd.underlying24 rfl (by kernel_rfl)
          refine bodyPost_ret (v := .tuple #[.agg #[.int .i64 n, .slice p 25 c], .agg (icells a).toArray, .bool true]) (results_cct Tryd.results17 rfl rfl rfl hU hV) rfl ⟨n, p, c, a, ls, rfl, hn, hO2.mono (by omega), hS, hb2⟩
end Go.Proofs.YtjjlekohkoicbaaDoor.Walks
