/-
  usherkeep.seated: a table behind some acts. Condition: the acts can be read.
-/
import Derived.Test.YthiojfgimjoenaaSeats
import Derived.Test.YthiojfgimjoenaaMake
import Derived.Deep.CutRange
import Derived.WalkKit
import Derived.ProofKit
import Derived.Handy
import Derived.LoopTactic
import Derived.Below
import Derived.Laws.BitsAllLaws
import Derived.RegionTactic
import Derived.Deep.RegionHeld3
import Derived.Deep.DrawnRows
import Derived.Deep.AppendLies
import Derived.Laws.OwnMore
import Derived.Deep.Onto
import Derived.Deep.QuietTactic
import Derived.BigQuiet
namespace Go.Proofs.Ythiojfgimjoenaa.Walks
open Go.RowKit
set_option linter.unusedVariables false
set_option linter.unusedSimpArgs false
attribute [local go_sem ↓] Go.wp_at_zero Go.wp_at_succ

theorem results_c4 {fn : Func} {x a b c d : Tmp} {t : TypeId} (h : fn.results = #[.cell x t, .tmp a, .tmp b, .tmp c, .tmp d]) {tmps : Array Value} {P : Program} {w : World} {p : Addr} {v1 va vb vc vd : Value} (hx : tmps.getD x undef = .pointer (some p)) (ha : tmps.getD a undef = va) (hb : tmps.getD b undef = vb) (hc : tmps.getD c undef = vc) (hd : tmps.getD d undef = vd)
    (h1 : (loadVar t p).run P w = .ok v1 w) : (results fn tmps).run P w = .ok (.tuple #[v1, va, vb, vc, vd]) w := by
  have e1 : ∀ a : Addr, (asAddr (.pointer (some a))).run P w = .ok a w := fun a => rfl
  simp only [Array.getD_eq_getD_getElem?] at hx ha hb hc hd
  simp [results, h, hx, ha, hb, hc, hd, e1, h1, Sem.run_bind]

theorem apart_nil (b : Option Nat) : Apart (Value.slice none 0 0).ownBlock b := fun g hg => by cases hg
theorem nil_apart (a : Option Nat) : Apart a (Value.slice none 0 0).ownBlock := (apart_nil a).symm

def cutS (l : List St) : Nat := min l.length 30

/-- What seated leaves. -/
def SeatRes (w : World) (r : Ending) (w' : World) : Prop :=
  ∃ (T : List Sl) (E : List En) (pT pH pG pA : Option Addr) (cT cH cG cA : Nat), r = .returned (.tuple #[.agg #[.slice pT T.length cT], .slice pH E.length cH, .slice pG E.length cG, .slice pA E.length cA, .bool true]) ∧ Inv 30 T E ∧ T.length ≤ 6 ∧
    SlAt w' (.slice pT T.length cT) T ∧ TmAt w' (.slice pH E.length cH) (hsE E) ∧ RowAt w' (.slice pG E.length cG) E.length (bcells (gdE E)) ∧ IntsAt w' (.slice pA E.length cA) (atE E) ∧ Below w.heap.size w w'

/-- What holds between two acts. -/
def Sits (w : World) (g9 N : Nat) (k : Nat) (qT pH pG pA : Option Addr) (dT cH cG cA : Nat) (T : List Sl) (E : List En) (wr : World) : Prop :=
  Inv k T E ∧ T.length = N ∧ Rws (w.heap.size + 1) g9 (.slice qT N dT) (.slice pH E.length cH) (.slice pG E.length cG) (.slice pA E.length cA) T E wr ∧ wr.heap[w.heap.size]? = some (.cells #[.slice none 0 0] 24 (0, 0)) ∧ Below w.heap.size w wr

/-- The next act's start: all that came is kept above the result's box. -/
theorem Sits.next {w : World} {g9 N k : Nat} {qT pH pG pA : Option Addr} {dT cH cG cA : Nat} {T : List Sl} {E : List En} {wr : World} (h : Sits w g9 N k qT pH pG pA dT cH cG cA T E wr)
    {k' : Nat} {qT' pH' pG' pA' : Option Addr} {dT' cH' cG' cA' : Nat} {T' : List Sl} {E' : List En} {w' : World} (hi : Inv k' T' E') (hN : T'.length = N) (hr : Rws (w.heap.size + 1) g9 (.slice qT' N dT') (.slice pH' E'.length cH') (.slice pG' E'.length cG') (.slice pA' E'.length cA') T' E' w') (hb : Below (w.heap.size + 1) wr w') : Sits w g9 N k' qT' pH' pG' pA' dT' cH' cG' cA' T' E' w' :=
  ⟨hi, hN, hr, (hb.block _ (Nat.lt_succ_self _)).trans h.2.2.2.1, h.2.2.2.2.trans (hb.mono (Nat.le_succ _))⟩

theorem Sits.lt {w : World} {g9 N k : Nat} {qT pH pG pA : Option Addr} {dT cH cG cA : Nat} {T : List Sl} {E : List En} {wr : World} (h : Sits w g9 N k qT pH pG pA dT cH cG cA T E wr) : w.heap.size < wr.heap.size := (Array.getElem?_eq_some_iff.1 h.2.2.2.1).1

/-- A table in a box, as a call's result is laid. -/
def End1 (wr : World) (v : Value) (l : List Sl) (g : Nat) (wx : World) : Prop :=
  wx.heap[g]? = some (.cells #[v] 24 (0, 0)) ∧ wx.ownsRow wr.heap.size 44 4 v l.length (scells l) ∧ Below wr.heap.size wr wx

theorem heap_newd (w : World) (o : Obj) : ((w.alloc o).drew).heap[w.heap.size]? = some o := heap_alloc_new w o

theorem endA {wr W w5 : World} {v : Value} {l : List Sl} (hs : w5.ownsRow W.heap.size 44 4 v l.length (scells l)) (hWr : wr.heap.size ≤ W.heap.size) (hb : Below wr.heap.size wr w5) : End1 wr v l w5.heap.size (w5.alloc (.cells #[v] 24)) :=
  ⟨heap_alloc_new _ _, (hs.mono hWr).alloc _, hb.alloc hb.size _⟩

theorem endB {wr W w5 : World} {v u0 : Value} {l : List Sl} (hT : W.heap[wr.heap.size]? = some (.cells #[u0] 24 (0, 0))) (hs : w5.ownsRow W.heap.size 44 4 v l.length (scells l)) (hW : Below W.heap.size W w5) (hb : Below wr.heap.size wr w5) :
    End1 wr v l wr.heap.size (w5.setCell ⟨wr.heap.size, 0, none⟩ v) := by
  have hlt := (Array.getElem?_eq_some_iff.1 hT).1
  refine ⟨box_set (box_below hT hW), own_set (hs.mono (Nat.le_of_lt hlt)) fun g hg he => ?_, hb.setCell (Nat.le_refl _) _⟩
  injection he with he
  have := (hs.lt g hg).1
  omega

set_option maxHeartbeats 16000000 in
set_option maxRecDepth 100000 in
theorem seated_any (n : Int) (wn : (Lit.int .i64 n).wf = true) (v : Value) (l : List St) (w : World) (hv : StAt w v l) (hwf : ∀ t ∈ l, (Lit.int .i64 t.1).wf = true ∧ (Lit.int .i64 t.2.1).wf = true ∧ (Lit.int .i64 t.2.2).wf = true) :
    Calls Try.prog 16 #[.int .i64 n, v] w (SeatRes w) := by
  obtain ⟨p, c, rfl, hc, hm, pa⟩ := hv.parts
  unfold maxLen at hm
  obtain ⟨n0, hn0, pn⟩ := picked_some n 6 wn (by omega) (by omega)
  have HP : Hid (_ ∧ _ ∧ _) := ⟨pa, hwf, pn⟩
  clear pa hwf pn hv wn
  have hmk : ∀ W, Calls Try.prog 25 #[.int .i64 (1 + (n0 : Int))] W (TabRes (List.replicate (1 + n0) (0, false, 0, 0)) 0 W) := fun W => by
    have h := make_any (1 + (n0 : Int)) W
    rw [show makeOut (1 + (n0 : Int)) = (List.replicate (1 + n0) (0, false, 0, 0), 0) by unfold makeOut; rw [if_pos ⟨by omega, by omega⟩, show (1 + (n0 : Int)).toNat = 1 + n0 by omega]] at h
    exact h
  have HK : Hid (_ ∧ True) := ⟨hmk, trivial⟩
  clear hmk
  obtain ⟨W0, hW0⟩ : ∃ W0, W0 = w.alloc (.cells #[.slice none 0 0] 24) := ⟨_, rfl⟩
  have hb0 : Below w.heap.size w W0 := by rw [hW0]; exact below_newC w
  have hR0 : W0.heap[w.heap.size]? = some (.cells #[.slice none 0 0] 24 (0, 0)) := by rw [hW0]; exact heap_alloc_new _ _
  have hs0 : W0.heap.size = w.heap.size + 1 := by rw [hW0]; simp
  have H0 : Hid (_ ∧ _ ∧ _ ∧ _) := ⟨hW0, hb0, hR0, hs0⟩
  clear hW0 hb0 hR0 hs0
  go_enter Try.func16, Try.ntmps16
  go_wp2_with fail
  rw [← H0.out.1]
  refine (HP.out.2.2 _).mono ?_
  rintro r w' ⟨rfl, hw'⟩
  rw [hw']
  clear hw'
  go_wp2_with fail
  refine (HK.out.1 _).mono ?_
  rintro r w1 ⟨pT, cT, rfl, ho1, hb1⟩
  rw [List.length_replicate] at ho1
  have hsz1 := hb1.size
  have hbw1 : Below w.heap.size w w1 := H0.out.2.1.trans (hb1.mono (by have := H0.out.2.2.2; omega))
  have hbox1 := (hb1.block w.heap.size (by have := H0.out.2.2.2; omega)).trans H0.out.2.2.1
  rw [List.length_replicate]
  have hz0 : ((1 + (n0 : Int)) == 0) = false := by rw [beq_eq_false_iff_ne]; omega
  go_wp2
  clear hz0
  obtain ⟨W2, hW2⟩ : ∃ W2, W2 = w1.alloc (.cells #[.slice pT (1 + n0) cT] 24) := ⟨_, rfl⟩
  have hb2 : Below w1.heap.size w1 W2 := by rw [hW2]; exact below_newC w1
  have hT2 : W2.heap[w1.heap.size]? = some (.cells #[.slice pT (1 + n0) cT] 24 (0, 0)) := by rw [hW2]; exact heap_alloc_new _ _
  have hsw := H0.out.2.2.2
  have ho2 : W2.ownsRow (w.heap.size + 1) 44 4 (.slice pT (1 + n0) cT) (List.replicate (1 + n0) ((0 : Int), false, (0 : Int), (0 : Int))).length (scells (List.replicate (1 + n0) (0, false, 0, 0))) := by
    rw [hW2, List.length_replicate]
    exact (ho1.mono (by omega)).alloc _
  have hg9 : Apart (Value.slice pT (1 + n0) cT).ownBlock (some w1.heap.size) := apart_lt ho1 (Nat.le_refl _)
  have hS2 : Sits w w1.heap.size (1 + n0) 0 pT none none none cT 0 0 0 (List.replicate (1 + n0) (0, false, 0, 0)) [] W2 :=
    ⟨inv_new _ (by omega) (by omega), by simp, ⟨hT2, ho2, World.ownsRow_nil _ _ _ _, World.ownsRow_nil _ _ _ _, World.ownsRow_nil _ _ _ _, hg9, apart_nil _, apart_nil _, apart_nil _, nil_apart _, nil_apart _, nil_apart _, apart_nil _, apart_nil _, apart_nil _, by have := hb2.size; omega⟩, (hb2.block _ (by omega)).trans hbox1, hbw1.trans (hb2.mono (by omega))⟩
  rw [← hW2]
  have H2 : Hid (_ ∧ _) := ⟨hS2, hsz1⟩
  clear hS2 hsz1 hW2 hb2 hT2 ho2 hg9 ho1 hb1 hbw1 hbox1 hsw
  have hg9B : w.heap.size + 1 ≤ w1.heap.size := by have := H2.out.2; have := H0.out.2.2.2; omega
  go_loopw [11, 12, 13, 14] (fun h g a i wr => ∃ (k : Nat) (qT pH pG pA : Option Addr) (dT cH cG cA : Nat) (T : List Sl) (E : List En), i = .int .i64 k ∧ h = .slice pH E.length cH ∧ g = .slice pG E.length cG ∧ a = .slice pA E.length cA ∧ k ≤ cutS l ∧ Sits w w1.heap.size (1 + n0) k qT pH pG pA dT cH cG cA T E wr) (fun _ _ _ i _ => cutS l - (intOf i).toNat)
  case atStart => exact ⟨0, pT, none, none, none, cT, 0, 0, 0, _, [], rfl, rfl, rfl, rfl, Nat.zero_le _, H2.out.1⟩
  case round =>
    obtain ⟨k, qT, pH, pG, pA, dT, cH, cG, cA, T, E, rfl, rfl, rfl, rfl, hk, hS⟩ := hrel
    have hcut : cutS l ≤ 30 ∧ cutS l ≤ l.length := ⟨Nat.min_le_right _ _, Nat.min_le_left _ _⟩
    have t9 := one_cell hS.2.2.1.box
    have f9 : wr.frozen? ⟨w1.heap.size, 0, none⟩ = false := by simp [World.frozen?, hS.2.2.1.box]
    have l9 := hS.2.2.1.lt
    by_cases hlt : k < cutS l
    · have hk30 : (k : Int) < 30 := by omega
      have hkl : (k : Int) < (l.length : Int) := by omega
      have hkn : k < l.length := by omega
      obtain ⟨b1, o1, rfl, hb1, c1, c2, c3⟩ := HP.out.1 k hkn
      have hbw := hS.2.2.2.2
      replace c1 := (hbw.cell (p := ⟨b1, o1 + k * 3, none⟩) hb1).trans c1
      replace c2 := (hbw.cell (p := ⟨b1, o1 + k * 3 + 1, none⟩) hb1).trans c2
      replace c3 := (hbw.cell (p := ⟨b1, o1 + k * 3 + 2, none⟩) hb1).trans c3
      have hbl1 : b1 < wr.heap.size := Nat.lt_of_lt_of_le hb1 hbw.size
      obtain ⟨hw1, hw2, hw3⟩ := HP.out.2.1 l[k] (List.getElem_mem hkn)
      obtain ⟨⟨x1, x2, x3⟩, hx⟩ : ∃ x, x = l[k] := ⟨_, rfl⟩
      rw [← hx] at c1 c2 c3 hw1 hw2 hw3
      obtain ⟨b, hb12, pb⟩ := picked_some x3 12 hw3 (by omega) (by omega)
      have hbp : isBeP (b : Int) := ⟨by omega, by omega⟩
      obtain ⟨kd, hkd, pk⟩ : ∃ kd : Int, (kd = 0 ∨ kd = 1 ∨ kd = 2 ∨ kd = 3) ∧ ∀ W, Calls Try.prog 19 #[.int .i64 x1, .int .i64 4] W fun r w' => r = .returned (.int .i64 kd) ∧ w' = W := by
        obtain ⟨kd, h1, h2⟩ := picked_some x1 4 hw1 (by omega) (by omega)
        exact ⟨kd, by omega, h2⟩
      have hfew := hS.1.few
      have hEA : 0 < E.length → ∃ kk : Nat, kk < E.length ∧ ∀ W, Calls Try.prog 19 #[.int .i64 x2, .int .i64 (E.length : Int)] W fun r w' => r = .returned (.int .i64 (kk : Int)) ∧ w' = W := fun h => picked_some x2 E.length hw2 h (by omega)
      have hE30 : E.length ≤ 30 := by omega
      have HB : Hid (_ ∧ _ ∧ _ ∧ _ ∧ _) := ⟨pb, pk, hEA, hS, hbp⟩
      clear pb pk hEA hS hx hw1 hw2 hw3 hb1 hbw hfew hbp
      rcases Nat.eq_zero_or_pos E.length with hE0 | hE0
      · have hEI : ¬ (0 : Int) < (E.length : Int) := by omega
        have hEz : ((E.length : Int) == 0) = true := by rw [beq_iff_eq]; omega
        clear hE0
        go_wp2_with fail
        refine (HB.out.1 _).mono ?_
        rintro r w' ⟨rfl, hw'⟩
        rw [hw']
        clear hw' w'
        go_wp2_with fail
        refine (HB.out.2.1 _).mono ?_
        rintro r w' ⟨rfl, hw'⟩
        rw [hw']
        clear hw' w'
        rcases hkd with rfl | rfl | rfl | rfl
        · rcases put_out HB.out.2.2.2.1.1 (by omega) HB.out.2.2.2.2 with ⟨_, hpo⟩ | ⟨ks, T', _, hpo, hTl, hInv⟩
          · have hPut : Calls Try.prog 18 #[.agg #[.slice qT (1 + n0) dT], .int .i64 (k : Int), .int .i64 (b : Int)] wr fun r w' => ∃ q d, r = .returned (.tuple #[.agg #[.slice q 0 d], .agg #[.int .i64 0, .int .i64 0], .int .i64 9]) ∧ Below wr.heap.size wr w' := by
              have hv := rowAt_own HB.out.2.2.2.1.2.2.1.rT
              have := put_any _ T (k : Int) (b : Int) wr hv
              rw [hpo] at this
              refine this.mono ?_
              rintro r w' ⟨q, d, rfl, h1, h2⟩
              exact ⟨q, d, rfl, h2⟩
            have HPut : Hid (_ ∧ True) := ⟨hPut, trivial⟩
            clear hPut hpo
            go_wp2_with fail
            refine HPut.out.1.mono ?_
            rintro r w5 ⟨q, d, rfl, hb5⟩
            have hb7 : Below wr.heap.size wr ((w5.alloc (.cells #[.slice q 0 d] 24)).alloc (.cells #[.int .i64 0, .int .i64 0] 42)) := (hb5.alloc hb5.size _).alloc (by have := hb5.size; simp; omega) _
            have hn := HB.out.2.2.2.1.next (HB.out.2.2.2.1.1.mono (Nat.le_succ k)) HB.out.2.2.2.1.2.1 (HB.out.2.2.2.1.2.2.1.below hb7) (hb7.mono (by have := HB.out.2.2.2.1.lt; omega))
            have HN : Hid (_ ∧ True) := ⟨hn, trivial⟩
            clear hn hb7 hb5 t9 f9
            go_wp2
            go_roundw
            case rel => exact ⟨k + 1, qT, pH, pG, pA, dT, cH, cG, cA, T, E, by simp, rfl, rfl, rfl, hlt, HN.out.1⟩
            case measure => simp [intOf]; omega
          · obtain ⟨gn, hgn⟩ : ∃ gn, gn = (T.getD ks (0, false, 0, 0)).1 := ⟨_, rfl⟩
            rw [← hgn] at hpo hInv
            have hTN : T'.length = 1 + n0 := hTl.trans HB.out.2.2.2.1.2.1
            have hPut : Calls Try.prog 18 #[.agg #[.slice qT (1 + n0) dT], .int .i64 (k : Int), .int .i64 (b : Int)] wr fun r w' => ∃ q d, r = .returned (.tuple #[.agg #[.slice q (1 + n0) d], .agg #[.int .i64 (ks : Int), .int .i64 gn], .int .i64 0]) ∧ w'.ownsRow wr.heap.size 44 4 (.slice q (1 + n0) d) T'.length (scells T') ∧ Below wr.heap.size wr w' := by
              have hv := rowAt_own HB.out.2.2.2.1.2.2.1.rT
              have := put_any _ T (k : Int) (b : Int) wr hv
              rw [hpo] at this
              refine this.mono ?_
              rintro r w' ⟨q, d, rfl, h1, h2⟩
              have h1 : w'.ownsRow wr.heap.size 44 4 (.slice q T'.length d) T'.length (scells T') := h1
              refine ⟨q, d, ?_, ?_, h2⟩
              · show _ = Ending.returned (.tuple #[.agg #[.slice q (1 + n0) d], _, _])
                rw [← hTN]
              · rw [← hTN]
                rw [hTN] at h1 ⊢
                exact h1
            have HPut : Hid (_ ∧ _ ∧ _) := ⟨hPut, hInv, hTN⟩
            clear hPut hpo hInv hTN hgn hTl
            go_wp2_with fail
            refine HPut.out.1.mono ?_
            rintro r w5 ⟨q, d, rfl, ho5, hb5⟩
            have hS := HB.out.2.2.2.1
            have hR5 := hS.2.2.1.below hb5
            have hR6 := hR5.table hS.2.2.1 hb5 ho5
            obtain ⟨WX, hWX⟩ : ∃ WX, WX = ((w5.setCell ⟨w1.heap.size, 0, none⟩ (.slice q (1 + n0) d)).alloc (.cells #[.slice q (1 + n0) d] 24)).alloc (.cells #[.int .i64 (ks : Int), .int .i64 gn] 42) := ⟨_, rfl⟩
            have hRX : Rws (w.heap.size + 1) w1.heap.size (.slice q (1 + n0) d) (.slice pH E.length cH) (.slice pG E.length cG) (.slice pA E.length cA) T' E WX := by
              rw [hWX]
              exact (hR6.below (below_newC _)).below (below_newC _)
            have hszX : WX.heap.size = w5.heap.size + 1 + 1 := by rw [hWX]; simp
            have hbB : w.heap.size + 1 ≤ wr.heap.size := hS.2.2.1.big
            have hbX : Below (w.heap.size + 1) wr WX := by
              rw [hWX]
              exact (((hb5.mono hbB).setCell (by exact hg9B) _).alloc (by have := hb5.size; simp; omega) _).alloc (by have := hb5.size; simp; omega) _
            obtain ⟨pH', cH', v1, r1, pG', cG', v2, r2, pA', cA', v3, r3, hR, hB3⟩ := push3 hRX (by omega) (ks : Int) gn (b : Int)
            have eL : (E ++ [(((ks : Int), gn), true, (b : Int))]).length = E.length + 1 := by simp
            rw [hszX, hWX] at r1
            have hn : Sits w w1.heap.size (1 + n0) (k + 1) q pH' pG' pA' d cH' cG' cA' T' (E ++ [(((ks : Int), gn), true, (b : Int))]) v3 := hS.next HPut.out.2.1 HPut.out.2.2 (by rw [eL]; exact hR) (hbX.trans hB3)
            have j9 := one_cell hR5.box
            have jf9 : w5.frozen? ⟨w1.heap.size, 0, none⟩ = false := by simp [World.frozen?, hR5.box]
            have jl9 := hR5.lt
            have HN : Hid (_ ∧ _ ∧ _ ∧ _ ∧ _) := ⟨hn, r1, r2, r3, eL⟩
            clear hn r1 r2 r3 hR hB3 hbX hszX hRX hWX hR6 hR5 hS hb5 ho5 eL t9 f9 hbB WX
            go_wp2_with (first | (at_builtin; (with_reducible refine wpList_append_eq rfl _ _ 32 rfl (.slice pH E.length cH) (.slice (some ⟨w5.heap.size + 1 + 1, 0, none⟩) 1 1) (.slice pH' (E.length + 1) cH') v1 ?hs ?hx ?hr ?_); (case hs => rfl); (case hx => rfl); (case hr => exact HN.out.2.1)) | (at_builtin; (with_reducible refine wpList_append_eq rfl _ _ 38 rfl (.slice pG E.length cG) (.slice (some ⟨v1.heap.size, 0, none⟩) 1 1) (.slice pG' (E.length + 1) cG') v2 ?hs ?hx ?hr ?_); (case hs => rfl); (case hx => rfl); (case hr => exact HN.out.2.2.1)) | (at_builtin; (with_reducible refine wpList_append_eq rfl _ _ 25 rfl (.slice pA E.length cA) (.slice (some ⟨v2.heap.size, 0, none⟩) 1 1) (.slice pA' (E.length + 1) cA') v3 ?hs ?hx ?hr ?_); (case hs => rfl); (case hx => rfl); (case hr => exact HN.out.2.2.2.1)))
            go_roundw
            case rel => exact ⟨k + 1, q, pH', pG', pA', d, cH', cG', cA', T', _, by simp, by rw [HN.out.2.2.2.2], by rw [HN.out.2.2.2.2], by rw [HN.out.2.2.2.2], hlt, HN.out.1⟩
            case measure => simp [intOf]; omega
        · rcases put_out HB.out.2.2.2.1.1 (by omega) HB.out.2.2.2.2 with ⟨_, hpo⟩ | ⟨ks, T', _, hpo, hTl, hInv⟩
          · have hPut : Calls Try.prog 18 #[.agg #[.slice qT (1 + n0) dT], .int .i64 (k : Int), .int .i64 (b : Int)] wr fun r w' => ∃ q d, r = .returned (.tuple #[.agg #[.slice q 0 d], .agg #[.int .i64 0, .int .i64 0], .int .i64 9]) ∧ Below wr.heap.size wr w' := by
              have hv := rowAt_own HB.out.2.2.2.1.2.2.1.rT
              have := put_any _ T (k : Int) (b : Int) wr hv
              rw [hpo] at this
              refine this.mono ?_
              rintro r w' ⟨q, d, rfl, h1, h2⟩
              exact ⟨q, d, rfl, h2⟩
            have HPut : Hid (_ ∧ True) := ⟨hPut, trivial⟩
            clear hPut hpo
            go_wp2_with fail
            refine HPut.out.1.mono ?_
            rintro r w5 ⟨q, d, rfl, hb5⟩
            have hb7 : Below wr.heap.size wr ((w5.alloc (.cells #[.slice q 0 d] 24)).alloc (.cells #[.int .i64 0, .int .i64 0] 42)) := (hb5.alloc hb5.size _).alloc (by have := hb5.size; simp; omega) _
            have hn := HB.out.2.2.2.1.next (HB.out.2.2.2.1.1.mono (Nat.le_succ k)) HB.out.2.2.2.1.2.1 (HB.out.2.2.2.1.2.2.1.below hb7) (hb7.mono (by have := HB.out.2.2.2.1.lt; omega))
            have HN : Hid (_ ∧ True) := ⟨hn, trivial⟩
            clear hn hb7 hb5 t9 f9
            go_wp2
            go_roundw
            case rel => exact ⟨k + 1, qT, pH, pG, pA, dT, cH, cG, cA, T, E, by simp, rfl, rfl, rfl, hlt, HN.out.1⟩
            case measure => simp [intOf]; omega
          · obtain ⟨gn, hgn⟩ : ∃ gn, gn = (T.getD ks (0, false, 0, 0)).1 := ⟨_, rfl⟩
            rw [← hgn] at hpo hInv
            have hTN : T'.length = 1 + n0 := hTl.trans HB.out.2.2.2.1.2.1
            have hPut : Calls Try.prog 18 #[.agg #[.slice qT (1 + n0) dT], .int .i64 (k : Int), .int .i64 (b : Int)] wr fun r w' => ∃ q d, r = .returned (.tuple #[.agg #[.slice q (1 + n0) d], .agg #[.int .i64 (ks : Int), .int .i64 gn], .int .i64 0]) ∧ w'.ownsRow wr.heap.size 44 4 (.slice q (1 + n0) d) T'.length (scells T') ∧ Below wr.heap.size wr w' := by
              have hv := rowAt_own HB.out.2.2.2.1.2.2.1.rT
              have := put_any _ T (k : Int) (b : Int) wr hv
              rw [hpo] at this
              refine this.mono ?_
              rintro r w' ⟨q, d, rfl, h1, h2⟩
              have h1 : w'.ownsRow wr.heap.size 44 4 (.slice q T'.length d) T'.length (scells T') := h1
              refine ⟨q, d, ?_, ?_, h2⟩
              · show _ = Ending.returned (.tuple #[.agg #[.slice q (1 + n0) d], _, _])
                rw [← hTN]
              · rw [← hTN]
                rw [hTN] at h1 ⊢
                exact h1
            have HPut : Hid (_ ∧ _ ∧ _) := ⟨hPut, hInv, hTN⟩
            clear hPut hpo hInv hTN hgn hTl
            go_wp2_with fail
            refine HPut.out.1.mono ?_
            rintro r w5 ⟨q, d, rfl, ho5, hb5⟩
            have hS := HB.out.2.2.2.1
            have hR5 := hS.2.2.1.below hb5
            have hR6 := hR5.table hS.2.2.1 hb5 ho5
            obtain ⟨WX, hWX⟩ : ∃ WX, WX = ((w5.setCell ⟨w1.heap.size, 0, none⟩ (.slice q (1 + n0) d)).alloc (.cells #[.slice q (1 + n0) d] 24)).alloc (.cells #[.int .i64 (ks : Int), .int .i64 gn] 42) := ⟨_, rfl⟩
            have hRX : Rws (w.heap.size + 1) w1.heap.size (.slice q (1 + n0) d) (.slice pH E.length cH) (.slice pG E.length cG) (.slice pA E.length cA) T' E WX := by
              rw [hWX]
              exact (hR6.below (below_newC _)).below (below_newC _)
            have hszX : WX.heap.size = w5.heap.size + 1 + 1 := by rw [hWX]; simp
            have hbB : w.heap.size + 1 ≤ wr.heap.size := hS.2.2.1.big
            have hbX : Below (w.heap.size + 1) wr WX := by
              rw [hWX]
              exact (((hb5.mono hbB).setCell (by exact hg9B) _).alloc (by have := hb5.size; simp; omega) _).alloc (by have := hb5.size; simp; omega) _
            obtain ⟨pH', cH', v1, r1, pG', cG', v2, r2, pA', cA', v3, r3, hR, hB3⟩ := push3 hRX (by omega) (ks : Int) gn (b : Int)
            have eL : (E ++ [(((ks : Int), gn), true, (b : Int))]).length = E.length + 1 := by simp
            rw [hszX, hWX] at r1
            have hn : Sits w w1.heap.size (1 + n0) (k + 1) q pH' pG' pA' d cH' cG' cA' T' (E ++ [(((ks : Int), gn), true, (b : Int))]) v3 := hS.next HPut.out.2.1 HPut.out.2.2 (by rw [eL]; exact hR) (hbX.trans hB3)
            have j9 := one_cell hR5.box
            have jf9 : w5.frozen? ⟨w1.heap.size, 0, none⟩ = false := by simp [World.frozen?, hR5.box]
            have jl9 := hR5.lt
            have HN : Hid (_ ∧ _ ∧ _ ∧ _ ∧ _) := ⟨hn, r1, r2, r3, eL⟩
            clear hn r1 r2 r3 hR hB3 hbX hszX hRX hWX hR6 hR5 hS hb5 ho5 eL t9 f9 hbB WX
            go_wp2_with (first | (at_builtin; (with_reducible refine wpList_append_eq rfl _ _ 32 rfl (.slice pH E.length cH) (.slice (some ⟨w5.heap.size + 1 + 1, 0, none⟩) 1 1) (.slice pH' (E.length + 1) cH') v1 ?hs ?hx ?hr ?_); (case hs => rfl); (case hx => rfl); (case hr => exact HN.out.2.1)) | (at_builtin; (with_reducible refine wpList_append_eq rfl _ _ 38 rfl (.slice pG E.length cG) (.slice (some ⟨v1.heap.size, 0, none⟩) 1 1) (.slice pG' (E.length + 1) cG') v2 ?hs ?hx ?hr ?_); (case hs => rfl); (case hx => rfl); (case hr => exact HN.out.2.2.1)) | (at_builtin; (with_reducible refine wpList_append_eq rfl _ _ 25 rfl (.slice pA E.length cA) (.slice (some ⟨v2.heap.size, 0, none⟩) 1 1) (.slice pA' (E.length + 1) cA') v3 ?hs ?hx ?hr ?_); (case hs => rfl); (case hx => rfl); (case hr => exact HN.out.2.2.2.1)))
            go_roundw
            case rel => exact ⟨k + 1, q, pH', pG', pA', d, cH', cG', cA', T', _, by simp, by rw [HN.out.2.2.2.2], by rw [HN.out.2.2.2.2], by rw [HN.out.2.2.2.2], hlt, HN.out.1⟩
            case measure => simp [intOf]; omega
        · have hn := HB.out.2.2.2.1.next (HB.out.2.2.2.1.1.mono (Nat.le_succ k)) HB.out.2.2.2.1.2.1 HB.out.2.2.2.1.2.2.1 (Below.refl _ _)
          have HN : Hid (_ ∧ True) := ⟨hn, trivial⟩
          clear hn t9 f9
          go_wp2
          go_roundw
          case rel => exact ⟨k + 1, qT, pH, pG, pA, dT, cH, cG, cA, T, E, by simp, rfl, rfl, rfl, hlt, HN.out.1⟩
          case measure => simp [intOf]; omega
        · have hn := HB.out.2.2.2.1.next (HB.out.2.2.2.1.1.mono (Nat.le_succ k)) HB.out.2.2.2.1.2.1 HB.out.2.2.2.1.2.2.1 (Below.refl _ _)
          have HN : Hid (_ ∧ True) := ⟨hn, trivial⟩
          clear hn t9 f9
          go_wp2
          go_roundw
          case rel => exact ⟨k + 1, qT, pH, pG, pA, dT, cH, cG, cA, T, E, by simp, rfl, rfl, rfl, hlt, HN.out.1⟩
          case measure => simp [intOf]; omega

      · have hEI : (0 : Int) < (E.length : Int) := by omega
        have hEz : ((E.length : Int) == 0) = false := by rw [beq_eq_false_iff_ne]; omega
        obtain ⟨kk, hkk, pkk⟩ := HB.out.2.2.1 hE0
        have HKK : Hid (_ ∧ _) := ⟨hkk, pkk⟩
        clear hkk pkk hE0
        go_wp2_with fail
        refine (HB.out.1 _).mono ?_
        rintro r w' ⟨rfl, hw'⟩
        rw [hw']
        clear hw' w'
        go_wp2_with fail
        refine (HKK.out.2 _).mono ?_
        rintro r w' ⟨rfl, hw'⟩
        rw [hw']
        clear hw' w'
        go_wp2_with fail
        refine (HB.out.2.1 _).mono ?_
        rintro r w' ⟨rfl, hw'⟩
        rw [hw']
        clear hw' w'
        rcases hkd with rfl | rfl | rfl | rfl
        · rcases put_out HB.out.2.2.2.1.1 (by omega) HB.out.2.2.2.2 with ⟨_, hpo⟩ | ⟨ks, T', _, hpo, hTl, hInv⟩
          · have hPut : Calls Try.prog 18 #[.agg #[.slice qT (1 + n0) dT], .int .i64 (k : Int), .int .i64 (b : Int)] wr fun r w' => ∃ q d, r = .returned (.tuple #[.agg #[.slice q 0 d], .agg #[.int .i64 0, .int .i64 0], .int .i64 9]) ∧ Below wr.heap.size wr w' := by
              have hv := rowAt_own HB.out.2.2.2.1.2.2.1.rT
              have := put_any _ T (k : Int) (b : Int) wr hv
              rw [hpo] at this
              refine this.mono ?_
              rintro r w' ⟨q, d, rfl, h1, h2⟩
              exact ⟨q, d, rfl, h2⟩
            have HPut : Hid (_ ∧ True) := ⟨hPut, trivial⟩
            clear hPut hpo
            go_wp2_with fail
            refine HPut.out.1.mono ?_
            rintro r w5 ⟨q, d, rfl, hb5⟩
            have hb7 : Below wr.heap.size wr ((w5.alloc (.cells #[.slice q 0 d] 24)).alloc (.cells #[.int .i64 0, .int .i64 0] 42)) := (hb5.alloc hb5.size _).alloc (by have := hb5.size; simp; omega) _
            have hn := HB.out.2.2.2.1.next (HB.out.2.2.2.1.1.mono (Nat.le_succ k)) HB.out.2.2.2.1.2.1 (HB.out.2.2.2.1.2.2.1.below hb7) (hb7.mono (by have := HB.out.2.2.2.1.lt; omega))
            have HN : Hid (_ ∧ True) := ⟨hn, trivial⟩
            clear hn hb7 hb5 t9 f9
            go_wp2
            go_roundw
            case rel => exact ⟨k + 1, qT, pH, pG, pA, dT, cH, cG, cA, T, E, by simp, rfl, rfl, rfl, hlt, HN.out.1⟩
            case measure => simp [intOf]; omega
          · obtain ⟨gn, hgn⟩ : ∃ gn, gn = (T.getD ks (0, false, 0, 0)).1 := ⟨_, rfl⟩
            rw [← hgn] at hpo hInv
            have hTN : T'.length = 1 + n0 := hTl.trans HB.out.2.2.2.1.2.1
            have hPut : Calls Try.prog 18 #[.agg #[.slice qT (1 + n0) dT], .int .i64 (k : Int), .int .i64 (b : Int)] wr fun r w' => ∃ q d, r = .returned (.tuple #[.agg #[.slice q (1 + n0) d], .agg #[.int .i64 (ks : Int), .int .i64 gn], .int .i64 0]) ∧ w'.ownsRow wr.heap.size 44 4 (.slice q (1 + n0) d) T'.length (scells T') ∧ Below wr.heap.size wr w' := by
              have hv := rowAt_own HB.out.2.2.2.1.2.2.1.rT
              have := put_any _ T (k : Int) (b : Int) wr hv
              rw [hpo] at this
              refine this.mono ?_
              rintro r w' ⟨q, d, rfl, h1, h2⟩
              have h1 : w'.ownsRow wr.heap.size 44 4 (.slice q T'.length d) T'.length (scells T') := h1
              refine ⟨q, d, ?_, ?_, h2⟩
              · show _ = Ending.returned (.tuple #[.agg #[.slice q (1 + n0) d], _, _])
                rw [← hTN]
              · rw [← hTN]
                rw [hTN] at h1 ⊢
                exact h1
            have HPut : Hid (_ ∧ _ ∧ _) := ⟨hPut, hInv, hTN⟩
            clear hPut hpo hInv hTN hgn hTl
            go_wp2_with fail
            refine HPut.out.1.mono ?_
            rintro r w5 ⟨q, d, rfl, ho5, hb5⟩
            have hS := HB.out.2.2.2.1
            have hR5 := hS.2.2.1.below hb5
            have hR6 := hR5.table hS.2.2.1 hb5 ho5
            obtain ⟨WX, hWX⟩ : ∃ WX, WX = ((w5.setCell ⟨w1.heap.size, 0, none⟩ (.slice q (1 + n0) d)).alloc (.cells #[.slice q (1 + n0) d] 24)).alloc (.cells #[.int .i64 (ks : Int), .int .i64 gn] 42) := ⟨_, rfl⟩
            have hRX : Rws (w.heap.size + 1) w1.heap.size (.slice q (1 + n0) d) (.slice pH E.length cH) (.slice pG E.length cG) (.slice pA E.length cA) T' E WX := by
              rw [hWX]
              exact (hR6.below (below_newC _)).below (below_newC _)
            have hszX : WX.heap.size = w5.heap.size + 1 + 1 := by rw [hWX]; simp
            have hbB : w.heap.size + 1 ≤ wr.heap.size := hS.2.2.1.big
            have hbX : Below (w.heap.size + 1) wr WX := by
              rw [hWX]
              exact (((hb5.mono hbB).setCell (by exact hg9B) _).alloc (by have := hb5.size; simp; omega) _).alloc (by have := hb5.size; simp; omega) _
            obtain ⟨pH', cH', v1, r1, pG', cG', v2, r2, pA', cA', v3, r3, hR, hB3⟩ := push3 hRX (by omega) (ks : Int) gn (b : Int)
            have eL : (E ++ [(((ks : Int), gn), true, (b : Int))]).length = E.length + 1 := by simp
            rw [hszX, hWX] at r1
            have hn : Sits w w1.heap.size (1 + n0) (k + 1) q pH' pG' pA' d cH' cG' cA' T' (E ++ [(((ks : Int), gn), true, (b : Int))]) v3 := hS.next HPut.out.2.1 HPut.out.2.2 (by rw [eL]; exact hR) (hbX.trans hB3)
            have j9 := one_cell hR5.box
            have jf9 : w5.frozen? ⟨w1.heap.size, 0, none⟩ = false := by simp [World.frozen?, hR5.box]
            have jl9 := hR5.lt
            have HN : Hid (_ ∧ _ ∧ _ ∧ _ ∧ _) := ⟨hn, r1, r2, r3, eL⟩
            clear hn r1 r2 r3 hR hB3 hbX hszX hRX hWX hR6 hR5 hS hb5 ho5 eL t9 f9 hbB WX
            go_wp2_with (first | (at_builtin; (with_reducible refine wpList_append_eq rfl _ _ 32 rfl (.slice pH E.length cH) (.slice (some ⟨w5.heap.size + 1 + 1, 0, none⟩) 1 1) (.slice pH' (E.length + 1) cH') v1 ?hs ?hx ?hr ?_); (case hs => rfl); (case hx => rfl); (case hr => exact HN.out.2.1)) | (at_builtin; (with_reducible refine wpList_append_eq rfl _ _ 38 rfl (.slice pG E.length cG) (.slice (some ⟨v1.heap.size, 0, none⟩) 1 1) (.slice pG' (E.length + 1) cG') v2 ?hs ?hx ?hr ?_); (case hs => rfl); (case hx => rfl); (case hr => exact HN.out.2.2.1)) | (at_builtin; (with_reducible refine wpList_append_eq rfl _ _ 25 rfl (.slice pA E.length cA) (.slice (some ⟨v2.heap.size, 0, none⟩) 1 1) (.slice pA' (E.length + 1) cA') v3 ?hs ?hx ?hr ?_); (case hs => rfl); (case hx => rfl); (case hr => exact HN.out.2.2.2.1)))
            go_roundw
            case rel => exact ⟨k + 1, q, pH', pG', pA', d, cH', cG', cA', T', _, by simp, by rw [HN.out.2.2.2.2], by rw [HN.out.2.2.2.2], by rw [HN.out.2.2.2.2], hlt, HN.out.1⟩
            case measure => simp [intOf]; omega
        · rcases put_out HB.out.2.2.2.1.1 (by omega) HB.out.2.2.2.2 with ⟨_, hpo⟩ | ⟨ks, T', _, hpo, hTl, hInv⟩
          · have hPut : Calls Try.prog 18 #[.agg #[.slice qT (1 + n0) dT], .int .i64 (k : Int), .int .i64 (b : Int)] wr fun r w' => ∃ q d, r = .returned (.tuple #[.agg #[.slice q 0 d], .agg #[.int .i64 0, .int .i64 0], .int .i64 9]) ∧ Below wr.heap.size wr w' := by
              have hv := rowAt_own HB.out.2.2.2.1.2.2.1.rT
              have := put_any _ T (k : Int) (b : Int) wr hv
              rw [hpo] at this
              refine this.mono ?_
              rintro r w' ⟨q, d, rfl, h1, h2⟩
              exact ⟨q, d, rfl, h2⟩
            have HPut : Hid (_ ∧ True) := ⟨hPut, trivial⟩
            clear hPut hpo
            go_wp2_with fail
            refine HPut.out.1.mono ?_
            rintro r w5 ⟨q, d, rfl, hb5⟩
            have hb7 : Below wr.heap.size wr ((w5.alloc (.cells #[.slice q 0 d] 24)).alloc (.cells #[.int .i64 0, .int .i64 0] 42)) := (hb5.alloc hb5.size _).alloc (by have := hb5.size; simp; omega) _
            have hn := HB.out.2.2.2.1.next (HB.out.2.2.2.1.1.mono (Nat.le_succ k)) HB.out.2.2.2.1.2.1 (HB.out.2.2.2.1.2.2.1.below hb7) (hb7.mono (by have := HB.out.2.2.2.1.lt; omega))
            have HN : Hid (_ ∧ True) := ⟨hn, trivial⟩
            clear hn hb7 hb5 t9 f9
            go_wp2
            go_roundw
            case rel => exact ⟨k + 1, qT, pH, pG, pA, dT, cH, cG, cA, T, E, by simp, rfl, rfl, rfl, hlt, HN.out.1⟩
            case measure => simp [intOf]; omega
          · obtain ⟨gn, hgn⟩ : ∃ gn, gn = (T.getD ks (0, false, 0, 0)).1 := ⟨_, rfl⟩
            rw [← hgn] at hpo hInv
            have hTN : T'.length = 1 + n0 := hTl.trans HB.out.2.2.2.1.2.1
            have hPut : Calls Try.prog 18 #[.agg #[.slice qT (1 + n0) dT], .int .i64 (k : Int), .int .i64 (b : Int)] wr fun r w' => ∃ q d, r = .returned (.tuple #[.agg #[.slice q (1 + n0) d], .agg #[.int .i64 (ks : Int), .int .i64 gn], .int .i64 0]) ∧ w'.ownsRow wr.heap.size 44 4 (.slice q (1 + n0) d) T'.length (scells T') ∧ Below wr.heap.size wr w' := by
              have hv := rowAt_own HB.out.2.2.2.1.2.2.1.rT
              have := put_any _ T (k : Int) (b : Int) wr hv
              rw [hpo] at this
              refine this.mono ?_
              rintro r w' ⟨q, d, rfl, h1, h2⟩
              have h1 : w'.ownsRow wr.heap.size 44 4 (.slice q T'.length d) T'.length (scells T') := h1
              refine ⟨q, d, ?_, ?_, h2⟩
              · show _ = Ending.returned (.tuple #[.agg #[.slice q (1 + n0) d], _, _])
                rw [← hTN]
              · rw [← hTN]
                rw [hTN] at h1 ⊢
                exact h1
            have HPut : Hid (_ ∧ _ ∧ _) := ⟨hPut, hInv, hTN⟩
            clear hPut hpo hInv hTN hgn hTl
            go_wp2_with fail
            refine HPut.out.1.mono ?_
            rintro r w5 ⟨q, d, rfl, ho5, hb5⟩
            have hS := HB.out.2.2.2.1
            have hR5 := hS.2.2.1.below hb5
            have hR6 := hR5.table hS.2.2.1 hb5 ho5
            obtain ⟨WX, hWX⟩ : ∃ WX, WX = ((w5.setCell ⟨w1.heap.size, 0, none⟩ (.slice q (1 + n0) d)).alloc (.cells #[.slice q (1 + n0) d] 24)).alloc (.cells #[.int .i64 (ks : Int), .int .i64 gn] 42) := ⟨_, rfl⟩
            have hRX : Rws (w.heap.size + 1) w1.heap.size (.slice q (1 + n0) d) (.slice pH E.length cH) (.slice pG E.length cG) (.slice pA E.length cA) T' E WX := by
              rw [hWX]
              exact (hR6.below (below_newC _)).below (below_newC _)
            have hszX : WX.heap.size = w5.heap.size + 1 + 1 := by rw [hWX]; simp
            have hbB : w.heap.size + 1 ≤ wr.heap.size := hS.2.2.1.big
            have hbX : Below (w.heap.size + 1) wr WX := by
              rw [hWX]
              exact (((hb5.mono hbB).setCell (by exact hg9B) _).alloc (by have := hb5.size; simp; omega) _).alloc (by have := hb5.size; simp; omega) _
            obtain ⟨pH', cH', v1, r1, pG', cG', v2, r2, pA', cA', v3, r3, hR, hB3⟩ := push3 hRX (by omega) (ks : Int) gn (b : Int)
            have eL : (E ++ [(((ks : Int), gn), true, (b : Int))]).length = E.length + 1 := by simp
            rw [hszX, hWX] at r1
            have hn : Sits w w1.heap.size (1 + n0) (k + 1) q pH' pG' pA' d cH' cG' cA' T' (E ++ [(((ks : Int), gn), true, (b : Int))]) v3 := hS.next HPut.out.2.1 HPut.out.2.2 (by rw [eL]; exact hR) (hbX.trans hB3)
            have j9 := one_cell hR5.box
            have jf9 : w5.frozen? ⟨w1.heap.size, 0, none⟩ = false := by simp [World.frozen?, hR5.box]
            have jl9 := hR5.lt
            have HN : Hid (_ ∧ _ ∧ _ ∧ _ ∧ _) := ⟨hn, r1, r2, r3, eL⟩
            clear hn r1 r2 r3 hR hB3 hbX hszX hRX hWX hR6 hR5 hS hb5 ho5 eL t9 f9 hbB WX
            go_wp2_with (first | (at_builtin; (with_reducible refine wpList_append_eq rfl _ _ 32 rfl (.slice pH E.length cH) (.slice (some ⟨w5.heap.size + 1 + 1, 0, none⟩) 1 1) (.slice pH' (E.length + 1) cH') v1 ?hs ?hx ?hr ?_); (case hs => rfl); (case hx => rfl); (case hr => exact HN.out.2.1)) | (at_builtin; (with_reducible refine wpList_append_eq rfl _ _ 38 rfl (.slice pG E.length cG) (.slice (some ⟨v1.heap.size, 0, none⟩) 1 1) (.slice pG' (E.length + 1) cG') v2 ?hs ?hx ?hr ?_); (case hs => rfl); (case hx => rfl); (case hr => exact HN.out.2.2.1)) | (at_builtin; (with_reducible refine wpList_append_eq rfl _ _ 25 rfl (.slice pA E.length cA) (.slice (some ⟨v2.heap.size, 0, none⟩) 1 1) (.slice pA' (E.length + 1) cA') v3 ?hs ?hx ?hr ?_); (case hs => rfl); (case hx => rfl); (case hr => exact HN.out.2.2.2.1)))
            go_roundw
            case rel => exact ⟨k + 1, q, pH', pG', pA', d, cH', cG', cA', T', _, by simp, by rw [HN.out.2.2.2.2], by rw [HN.out.2.2.2.2], by rw [HN.out.2.2.2.2], hlt, HN.out.1⟩
            case measure => simp [intOf]; omega
        · have hS := HB.out.2.2.2.1
          have hkk := HKK.out.1
          obtain ⟨gH, gG, gA, rfl, rfl, rfl, ⟨h1, h2⟩, ⟨h3, h4⟩, ⟨h5, h6⟩, lH, lG, lA, bG, bA, m1, m2, m3, m4, m5, m6⟩ := hS.2.2.1.at hkk
          unfold maxLen at m2 m4 m6
          have hdd := hS.2.2.1.dG gG rfl
          have hda := hS.2.2.1.dA gA rfl
          have hne1 : ¬ gG = w1.heap.size := fun e => hdd (by rw [e])
          have hne2 : ¬ w1.heap.size = gG := fun e => hdd (by rw [e])
          have hne3 : ¬ gA = w1.heap.size := fun e => hda (by rw [e])
          have hne4 : ¬ w1.heap.size = gA := fun e => hda (by rw [e])
          have hkkI : (kk : Int) < (E.length : Int) := by omega
          have hv := rowAt_own hS.2.2.1.rT
          obtain ⟨T', er, hout⟩ : ∃ T' er, dropOut T E[kk].1.1 E[kk].1.2 = (T', er) := ⟨_, _, rfl⟩
          have hbad : E[kk].2.1 = false → T' = [] ∧ er = 10 := fun hgd => by
            rw [drop_bad hS.1 hkk hgd] at hout
            injection hout with o1 o2
            exact ⟨o1.symm, o2.symm⟩
          have hgood : E[kk].2.1 = true → er = 0 ∧ T'.length = 1 + n0 ∧ Inv (k + 1) T' (E.set kk (E[kk].1, false, E[kk].2.2)) := fun hgd => by
            obtain ⟨T2, ho2, hl2, hi2⟩ := drop_inv hS.1 (by omega) hkk hgd
            rw [hout] at ho2
            injection ho2 with o1 o2
            subst o1 o2
            exact ⟨rfl, hl2.trans hS.2.1, hi2⟩
          obtain ⟨hs, hhs⟩ : ∃ hs, hs = E[kk].1.1 := ⟨_, rfl⟩
          obtain ⟨hg, hhg⟩ : ∃ hg, hg = E[kk].1.2 := ⟨_, rfl⟩
          rw [← hhs, ← hhg] at hout
          rw [← hhs] at h1
          rw [← hhg] at h2
          have hD : ∀ W, Below wr.heap.size wr W → Calls Try.prog 26 #[.agg #[.slice qT (1 + n0) dT], .agg #[.int .i64 hs, .int .i64 hg]] W fun r w' => ∃ q d, r = .returned (.tuple #[.agg #[.slice q T'.length d], .int .i64 er]) ∧ Hid (w'.ownsRow W.heap.size 44 4 (.slice q T'.length d) T'.length (scells T') ∧ Below W.heap.size W w' ∧ Below wr.heap.size wr w') ∧ (∀ n, n < W.heap.size → n < w'.heap.size) ∧ (∀ b o, b < W.heap.size → w'.cell? ⟨b, o, none⟩ = W.cell? ⟨b, o, none⟩) ∧ (∀ b o, b < W.heap.size → w'.frozen? ⟨b, o, none⟩ = W.frozen? ⟨b, o, none⟩) := fun W hW => by
            have := drop_any _ T hs hg W (SlAt.below hv hW)
            rw [hout] at this
            refine this.mono ?_
            rintro r w' ⟨q, d, rfl, z1, z2⟩
            exact ⟨q, d, rfl, ⟨z1, z2, hW.trans (z2.mono hW.size)⟩, (fun n hn => Nat.lt_of_lt_of_le hn z2.size), (bcell z2).1, (bcell z2).2⟩
          have HD : Hid (_ ∧ _ ∧ _ ∧ _) := ⟨hD, hS, hbad, hgood⟩
          clear hD hS hv hout hhs hhg hbad hgood
          go_upto_region 34 with fail
          go_cut [20, 21] from 143 to 151 (fun x e wx => ∃ g q d, x = .pointer (some ⟨g, 0, none⟩) ∧ e = .int .i64 er ∧ End1 wr (.slice q T'.length d) T' g wx)
          case first =>
            go_region_held3 (fun W => W.cell? ⟨w1.heap.size, 0, none⟩ = some (.slice qT (1 + n0) dT) ∧ W.cell? ⟨gH, kk * 2, none⟩ = some (.int .i64 hs) ∧ W.cell? ⟨gH, kk * 2 + 1, none⟩ = some (.int .i64 hg) ∧ Below wr.heap.size wr W) (first | exact held3t t9 h1 h2 ((Below.refl _ _).drew) | exact held3t t9 h1 h2 (((Below.refl _ _).drew).alloc (by simp) _) | exact held3t t9 h1 h2 hq5.out.2.2 | exact held3t t9 h1 h2 (hq5.out.2.2.alloc hq5.out.2.2.size _) | exact held3t t9 h1 h2 (((Below.refl _ _).alloc (Nat.le_refl _) _).drew) | exact held3t t9 h1 h2 (hq5.out.2.2.setCell (Nat.le_refl _) _)) (first | (go_at_call 26; refine (HD.out.1 _ ?hbW).mono ?_; (case hbW => first | assumption | exact (Below.refl _ _).drew | exact ((Below.refl _ _).drew).alloc (by simp) _ | exact ((Below.refl _ _).alloc (Nat.le_refl _) _).drew); rintro r w5 ⟨q, d, rfl, hq5, hz5, hc5, hf5⟩))
            all_goals
              clear hz5 hc5 hf5
              go_wp2_with fail
              go_meet
              refine ⟨_, q, d, rfl, rfl, ?_⟩
              first
              | with_reducible exact endA hq5.out.1 (Nat.le_refl _) hq5.out.2.2
              | with_reducible exact endB (by first | exact heap_alloc_new _ _ | exact heap_newd _ _) hq5.out.1 hq5.out.2.1 hq5.out.2.2

          case rest =>
          obtain ⟨g, q, d, rfl, rfl, hbx, hob, hbc⟩ := hcut
          have lG' := Nat.lt_of_lt_of_le lG hbc.size
          have lA' := Nat.lt_of_lt_of_le lA hbc.size
          have l9' := Nat.lt_of_lt_of_le l9 hbc.size
          have i3 := (hbc.cell (p := ⟨gG, kk, none⟩) lG).trans h3
          have hS := HD.out.2.1
          cases hgd : E[kk].2.1
          · obtain ⟨rfl, rfl⟩ := HD.out.2.2.1 hgd
            rw [hgd] at i3
            have hn := hS.next (hS.1.mono (Nat.le_succ k)) hS.2.1 (hS.2.2.1.below hbc) (hbc.mono hS.2.2.1.big)
            have HN : Hid (_ ∧ True) := ⟨hn, trivial⟩
            clear hn hbc hbx t9 f9 h1 h2 h3 h4 h5 h6 hob hS hgd
            go_wp2
            go_roundw
            case rel => exact ⟨k + 1, qT, _, _, _, dT, cH, cG, cA, T, E, by simp, rfl, rfl, rfl, hlt, HN.out.1⟩
            case measure => simp [intOf]; omega
          · obtain ⟨rfl, hTN, hInv⟩ := HD.out.2.2.2 hgd
            rw [hgd] at i3
            have hob' : wc.ownsRow wr.heap.size 44 4 (.slice q (1 + n0) d) T'.length (scells T') := by
              have := hob
              rw [hTN] at this ⊢
              exact this
            rw [hTN] at hbx
            have i0 := one_cell hbx
            have i4 := (hbc.frozen (p := ⟨gG, kk, none⟩) lG).trans h4
            have i5 := (hbc.cell (p := ⟨gA, kk, none⟩) lA).trans h5
            have i6 := (hbc.frozen (p := ⟨gA, kk, none⟩) lA).trans h6
            have i9 := (hbc.cell (p := ⟨w1.heap.size, 0, none⟩) l9).trans t9
            have j9 := (hbc.frozen (p := ⟨w1.heap.size, 0, none⟩) l9).trans f9
            have hRc := hS.2.2.1.below hbc
            have hR6 := hRc.table hS.2.2.1 hbc hob'
            have hR7 := hR6.mark hkk (y := (E[kk].1, false, E[kk].2.2)) rfl rfl
            have eL : (E.set kk (E[kk].1, false, E[kk].2.2)).length = E.length := by simp
            have hn : Sits w w1.heap.size (1 + n0) (k + 1) q (some ⟨gH, 0, none⟩) (some ⟨gG, 0, none⟩) (some ⟨gA, 0, none⟩) d cH cG cA T' (E.set kk (E[kk].1, false, E[kk].2.2)) ((wc.setCell ⟨w1.heap.size, 0, none⟩ (.slice q (1 + n0) d)).setCell ⟨gG, kk, none⟩ (.bool false)) := hS.next hInv hTN (by rw [eL]; exact hR7) (((hbc.mono hS.2.2.1.big).setCell (by exact hg9B) _).setCell (by exact bG) _)
            have HN : Hid (_ ∧ _) := ⟨hn, eL⟩
            clear hn hbc hbx t9 f9 h1 h2 h3 h4 h5 h6 hob hob' hRc hR6 hR7 hS hgd eL hInv hTN
            go_wp2
            go_roundw
            case rel => exact ⟨k + 1, q, _, _, _, d, cH, cG, cA, T', _, by simp, by rw [HN.out.2], by rw [HN.out.2], by rw [HN.out.2], hlt, HN.out.1⟩
            case measure => simp [intOf]; omega
        · have hS := HB.out.2.2.2.1
          have hkk := HKK.out.1
          obtain ⟨gH, gG, gA, rfl, rfl, rfl, ⟨h1, h2⟩, ⟨h3, h4⟩, ⟨h5, h6⟩, lH, lG, lA, bG, bA, m1, m2, m3, m4, m5, m6⟩ := hS.2.2.1.at hkk
          unfold maxLen at m2 m4 m6
          have hdd := hS.2.2.1.dG gG rfl
          have hda := hS.2.2.1.dA gA rfl
          have hne1 : ¬ gG = w1.heap.size := fun e => hdd (by rw [e])
          have hne2 : ¬ w1.heap.size = gG := fun e => hdd (by rw [e])
          have hne3 : ¬ gA = w1.heap.size := fun e => hda (by rw [e])
          have hne4 : ¬ w1.heap.size = gA := fun e => hda (by rw [e])
          have hkkI : (kk : Int) < (E.length : Int) := by omega
          have hv := rowAt_own hS.2.2.1.rT
          obtain ⟨T', er, hout⟩ : ∃ T' er, moveOut T E[kk].1.1 E[kk].1.2 (b : Int) = (T', er) := ⟨_, _, rfl⟩
          have hbad : E[kk].2.1 = false → T' = [] ∧ er = 10 := fun hgd => by
            rw [move_bad hS.1 hkk hgd (b : Int)] at hout
            injection hout with o1 o2
            exact ⟨o1.symm, o2.symm⟩
          have hgood : E[kk].2.1 = true → er = 0 ∧ T'.length = 1 + n0 ∧ Inv (k + 1) T' (E.set kk (E[kk].1, true, (b : Int))) := fun hgd => by
            obtain ⟨T2, ho2, hl2, hi2⟩ := move_inv hS.1 (by omega) hkk hgd HB.out.2.2.2.2
            rw [hout] at ho2
            injection ho2 with o1 o2
            subst o1 o2
            exact ⟨rfl, hl2.trans hS.2.1, hi2⟩
          obtain ⟨hs, hhs⟩ : ∃ hs, hs = E[kk].1.1 := ⟨_, rfl⟩
          obtain ⟨hg, hhg⟩ : ∃ hg, hg = E[kk].1.2 := ⟨_, rfl⟩
          rw [← hhs, ← hhg] at hout
          rw [← hhs] at h1
          rw [← hhg] at h2
          have hD : ∀ W, Below wr.heap.size wr W → Calls Try.prog 21 #[.agg #[.slice qT (1 + n0) dT], .agg #[.int .i64 hs, .int .i64 hg], .int .i64 (b : Int)] W fun r w' => ∃ q d, r = .returned (.tuple #[.agg #[.slice q T'.length d], .int .i64 er]) ∧ Hid (w'.ownsRow W.heap.size 44 4 (.slice q T'.length d) T'.length (scells T') ∧ Below W.heap.size W w' ∧ Below wr.heap.size wr w') ∧ (∀ n, n < W.heap.size → n < w'.heap.size) ∧ (∀ b o, b < W.heap.size → w'.cell? ⟨b, o, none⟩ = W.cell? ⟨b, o, none⟩) ∧ (∀ b o, b < W.heap.size → w'.frozen? ⟨b, o, none⟩ = W.frozen? ⟨b, o, none⟩) := fun W hW => by
            have := move_any _ T hs hg (b : Int) W (SlAt.below hv hW)
            rw [hout] at this
            refine this.mono ?_
            rintro r w' ⟨q, d, rfl, z1, z2⟩
            exact ⟨q, d, rfl, ⟨z1, z2, hW.trans (z2.mono hW.size)⟩, (fun n hn => Nat.lt_of_lt_of_le hn z2.size), (bcell z2).1, (bcell z2).2⟩
          have HD : Hid (_ ∧ _ ∧ _ ∧ _) := ⟨hD, hS, hbad, hgood⟩
          clear hD hS hv hout hhs hhg hbad hgood
          go_upto_region 16 with fail
          go_cut [22, 23] from 79 to 88 (fun x e wx => ∃ g q d, x = .pointer (some ⟨g, 0, none⟩) ∧ e = .int .i64 er ∧ End1 wr (.slice q T'.length d) T' g wx)
          case first =>
            go_region_held3 (fun W => W.cell? ⟨w1.heap.size, 0, none⟩ = some (.slice qT (1 + n0) dT) ∧ W.cell? ⟨gH, kk * 2, none⟩ = some (.int .i64 hs) ∧ W.cell? ⟨gH, kk * 2 + 1, none⟩ = some (.int .i64 hg) ∧ Below wr.heap.size wr W) (first | exact held3t t9 h1 h2 ((Below.refl _ _).drew) | exact held3t t9 h1 h2 (((Below.refl _ _).drew).alloc (by simp) _) | exact held3t t9 h1 h2 hq5.out.2.2 | exact held3t t9 h1 h2 (hq5.out.2.2.alloc hq5.out.2.2.size _) | exact held3t t9 h1 h2 (((Below.refl _ _).alloc (Nat.le_refl _) _).drew) | exact held3t t9 h1 h2 (hq5.out.2.2.setCell (Nat.le_refl _) _)) (first | (go_at_call 21; refine (HD.out.1 _ ?hbW).mono ?_; (case hbW => first | assumption | exact (Below.refl _ _).drew | exact ((Below.refl _ _).drew).alloc (by simp) _ | exact ((Below.refl _ _).alloc (Nat.le_refl _) _).drew); rintro r w5 ⟨q, d, rfl, hq5, hz5, hc5, hf5⟩))
            all_goals
              clear hz5 hc5 hf5
              go_wp2_with fail
              go_meet
              refine ⟨_, q, d, rfl, rfl, ?_⟩
              first
              | with_reducible exact endA hq5.out.1 (Nat.le_refl _) hq5.out.2.2
              | with_reducible exact endB (by first | exact heap_alloc_new _ _ | exact heap_newd _ _) hq5.out.1 hq5.out.2.1 hq5.out.2.2

          case rest =>
          obtain ⟨g, q, d, rfl, rfl, hbx, hob, hbc⟩ := hcut
          have lG' := Nat.lt_of_lt_of_le lG hbc.size
          have lA' := Nat.lt_of_lt_of_le lA hbc.size
          have l9' := Nat.lt_of_lt_of_le l9 hbc.size
          have i3 := (hbc.cell (p := ⟨gG, kk, none⟩) lG).trans h3
          have hS := HD.out.2.1
          cases hgd : E[kk].2.1
          · obtain ⟨rfl, rfl⟩ := HD.out.2.2.1 hgd
            rw [hgd] at i3
            have hn := hS.next (hS.1.mono (Nat.le_succ k)) hS.2.1 (hS.2.2.1.below hbc) (hbc.mono hS.2.2.1.big)
            have HN : Hid (_ ∧ True) := ⟨hn, trivial⟩
            clear hn hbc hbx t9 f9 h1 h2 h3 h4 h5 h6 hob hS hgd
            go_wp2
            go_roundw
            case rel => exact ⟨k + 1, qT, _, _, _, dT, cH, cG, cA, T, E, by simp, rfl, rfl, rfl, hlt, HN.out.1⟩
            case measure => simp [intOf]; omega
          · obtain ⟨rfl, hTN, hInv⟩ := HD.out.2.2.2 hgd
            rw [hgd] at i3
            have hob' : wc.ownsRow wr.heap.size 44 4 (.slice q (1 + n0) d) T'.length (scells T') := by
              have := hob
              rw [hTN] at this ⊢
              exact this
            rw [hTN] at hbx
            have i0 := one_cell hbx
            have i4 := (hbc.frozen (p := ⟨gG, kk, none⟩) lG).trans h4
            have i5 := (hbc.cell (p := ⟨gA, kk, none⟩) lA).trans h5
            have i6 := (hbc.frozen (p := ⟨gA, kk, none⟩) lA).trans h6
            have i9 := (hbc.cell (p := ⟨w1.heap.size, 0, none⟩) l9).trans t9
            have j9 := (hbc.frozen (p := ⟨w1.heap.size, 0, none⟩) l9).trans f9
            have hRc := hS.2.2.1.below hbc
            have hR6 := hRc.table hS.2.2.1 hbc hob'
            have hR7 := hR6.shift hkk (y := (E[kk].1, true, (b : Int))) rfl (by rw [hgd])
            have eL : (E.set kk (E[kk].1, true, (b : Int))).length = E.length := by simp
            have hn : Sits w w1.heap.size (1 + n0) (k + 1) q (some ⟨gH, 0, none⟩) (some ⟨gG, 0, none⟩) (some ⟨gA, 0, none⟩) d cH cG cA T' (E.set kk (E[kk].1, true, (b : Int))) ((wc.setCell ⟨w1.heap.size, 0, none⟩ (.slice q (1 + n0) d)).setCell ⟨gA, kk, none⟩ (.int .i64 (b : Int))) := hS.next hInv hTN (by rw [eL]; exact hR7) (((hbc.mono hS.2.2.1.big).setCell (by exact hg9B) _).setCell (by exact bA) _)
            have HN : Hid (_ ∧ _) := ⟨hn, eL⟩
            clear hn hbc hbx t9 f9 h1 h2 h3 h4 h5 h6 hob hob' hRc hR6 hR7 hS hgd eL hInv hTN
            go_wp2
            go_roundw
            case rel => exact ⟨k + 1, q, _, _, _, d, cH, cG, cA, T', _, by simp, by rw [HN.out.2], by rw [HN.out.2], by rw [HN.out.2], hlt, HN.out.1⟩
            case measure => simp [intOf]; omega

    · obtain rfl : k = cutS l := by omega
      have hend : ¬ (((cutS l : Nat) : Int) < (l.length : Int) ∧ ((cutS l : Nat) : Int) < 30) := by unfold cutS; omega
      obtain ⟨K, hK⟩ : ∃ K, K = cutS l := ⟨_, rfl⟩
      rw [← hK] at hS hend ⊢
      have hK30 : K ≤ 30 := by omega
      have b4 := one_cell hS.2.2.2.1
      have bf4 : wr.frozen? ⟨w.heap.size, 0, none⟩ = false := by simp [World.frozen?, hS.2.2.2.1]
      have bl4 := hS.lt
      have hres := box_set (u := .slice qT (1 + n0) dT) hS.2.2.2.1
      have hap : ∀ {v : Value} {e : TypeId} {sz n : Nat} {xs : List Value}, wr.ownsRow (w.heap.size + 1) e sz v n xs → Apart v.ownBlock (some w.heap.size) := fun hh g hg he => by
        injection he with he
        have := (hh.lt g hg).1
        omega
      have q1 := own_set (g := w.heap.size) (o := 0) (u := .slice qT (1 + n0) dT) hS.2.2.1.rT (hap hS.2.2.1.rT)
      have q2 := own_set (g := w.heap.size) (o := 0) (u := .slice qT (1 + n0) dT) hS.2.2.1.rH (hap hS.2.2.1.rH)
      have q3 := own_set (g := w.heap.size) (o := 0) (u := .slice qT (1 + n0) dT) hS.2.2.1.rG (hap hS.2.2.1.rG)
      have q4 := own_set (g := w.heap.size) (o := 0) (u := .slice qT (1 + n0) dT) hS.2.2.1.rA (hap hS.2.2.1.rA)
      have hbf : Below w.heap.size w (wr.setCell ⟨w.heap.size, 0, none⟩ (.slice qT (1 + n0) dT)) := hS.2.2.2.2.setCell (Nat.le_refl _) _
      have HE : Hid (_ ∧ _ ∧ _ ∧ _ ∧ _ ∧ _ ∧ _ ∧ _) := ⟨hres, q1, q2, q3, q4, hbf, hS.1.mono hK30, hS.2.1⟩
      clear hres q1 q2 q3 q4 hbf hap hS hK
      rcases (by omega : (K : Int) < (l.length : Int) ∧ ¬ (K : Int) < 30 ∨ ¬ (K : Int) < (l.length : Int)) with ⟨h1, h2⟩ | h1
      all_goals
        go_wp2
        refine bodyPost_ret (v := .tuple #[.agg #[.slice qT (1 + n0) dT], .slice pH E.length cH, .slice pG E.length cG, .slice pA E.length cA, .bool true]) (results_c4 Try.results16 rfl rfl rfl rfl rfl (load_row (P := Try.prog) (cs := [.slice qT (1 + n0) dT]) HE.out.1 Try.underlying24 rfl (by kernel_rfl))) rfl ?_
        have hN := HE.out.2.2.2.2.2.2.2
        refine ⟨T, E, qT, pH, pG, pA, dT, cH, cG, cA, ?_, HE.out.2.2.2.2.2.2.1, by omega, ?_, ?_, ?_, ?_, HE.out.2.2.2.2.2.1⟩
        · rw [hN]
        · have := rowAt_own HE.out.2.1
          rw [hN] at this ⊢
          unfold SlAt
          rw [hN]
          exact this
        · have := rowAt_own HE.out.2.2.1
          unfold TmAt
          rw [hsE_len]
          exact this
        · exact rowAt_own HE.out.2.2.2.1
        · have := rowAt_own HE.out.2.2.2.2.1
          unfold IntsAt
          rw [atE_len]
          exact this
end Go.Proofs.Ythiojfgimjoenaa.Walks
