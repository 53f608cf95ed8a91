/-
  CapsScale's walk. Condition: the raw numbers can be read.
-/
import Derived.Test.YtmjdkobmklkilaaScale
import Derived.WalkKit
import Derived.ProofKit
import Derived.Handy
import Derived.LoopTactic
import Derived.Below
import Derived.Laws.BitsAllLaws
import Derived.RegionTactic
import Derived.Deep.RegionHeld3
import Derived.Deep.DrawnRows
import Derived.Deep.AppendLies
import Derived.Laws.OwnMore
import Derived.Deep.Onto
import Derived.Deep.QuietTactic
import Derived.BigQuiet
namespace Go.Proofs.Ytmjdkobmklkilaa.Walks
open Go.RowKit
set_option linter.unusedVariables false
set_option linter.unusedSimpArgs false
attribute [local go_sem ↓] Go.wp_at_zero Go.wp_at_succ

set_option maxHeartbeats 8000000 in
set_option maxRecDepth 100000 in
theorem scale_law (w : World) (v : Value) (raw : List Tm) (hv : TmAt w v raw) (hwf : ∀ t ∈ raw, (Lit.int .i64 t.1).wf = true ∧ (Lit.int .i64 t.2).wf = true) (hlen : raw.length ≤ 140737488351232 / 16) (a : Int) (x0 : (Lit.int .i64 a).wf = true) (b : Int) (x1 : (Lit.int .i64 b).wf = true) (c : Int) (x2 : (Lit.int .i64 c).wf = true) :
    Calls Try.prog 7 #[v, .int .i64 a, .int .i64 b, .int .i64 c] w fun r w' => r = .returned (.bool true) ∧ Below w.heap.size w w' := by
  obtain ⟨pv, cv, rfl, _, _, _⟩ := hv.parts
  obtain ⟨k1, hk1, p1⟩ := picked_some b 10 x1 (by omega) (by omega)
  obtain ⟨k0, hk0, p0⟩ := picked_some a (10 - k1) x0 (by omega) (by omega)
  obtain ⟨k2, hk2, p2⟩ := picked_some c 41 x2 (by omega) (by omega)
  rw [show ((10 - k1 : Nat) : Int) = 10 - (1 + k1) + 1 by omega] at p0
  have hok := partsL_ok raw
  have hP := parts_any _ raw w hv hwf
  obtain ⟨L, hL⟩ : ∃ L, L = partsL raw := ⟨_, rfl⟩
  obtain ⟨F, hF⟩ : ∃ F, F = min (flw L) 40 := ⟨_, rfl⟩
  obtain ⟨T, hT⟩ : ∃ T, T = tot L := ⟨_, rfl⟩
  rw [← hL] at hok hP
  rw [← hF, ← hT] at hP
  clear hL hF hT
  have hl12 := hok.1
  have f1 : Fac (1 + (k1 : Int) + k0) (1 + k1) k2 := ⟨⟨by omega, by omega, by omega⟩, by omega, by omega⟩
  have f2 : Fac (2 * (1 + (k1 : Int) + k0)) (2 * (1 + k1)) k2 := ⟨⟨by omega, by omega, by omega⟩, by omega, by omega⟩
  have o1 : capsOut (halfL L) (1 + (k1 : Int) + k0) (1 + k1) k2 = (0, capsL (1 + (k1 : Int) + k0) (1 + k1) k2 (halfL L)) := by unfold capsOut; rw [if_pos (lokB_iff.2 (half_ok hok)), if_pos f1]
  have o2 : capsOut (twiceL L) (2 * (1 + (k1 : Int) + k0)) (2 * (1 + k1)) k2 = (0, capsL (1 + (k1 : Int) + k0) (1 + k1) k2 (halfL L)) := by unfold capsOut; rw [if_pos (lokB_iff.2 (twice_ok hok)), if_pos f2, caps_scale hok f1 f2]
  obtain ⟨m, hm⟩ : ∃ m, m = capsL (1 + (k1 : Int) + k0) (1 + k1) k2 (halfL L) := ⟨_, rfl⟩
  have hml : m.length = L.length := by rw [hm]; simp [capsL, halfL]
  rw [← hm] at o1 o2
  have hhl : (halfL L).length = L.length := by simp [halfL]
  have htl : (twiceL L).length = L.length := by simp [twiceL]
  have hw0 : ∀ k (h : k < L.length), 0 ≤ L[k].2.1 ∧ L[k].2.1 ≤ 8 := fun k h => (okFrom_all hok.2 L[k] (List.getElem_mem h)).1
  have hh : ∀ k (h : k < L.length), (halfL L).take (k + 1) = (halfL L).take k ++ [(L[k].1, L[k].2.1 / 2, L[k].2.2)] := fun k h => by
    rw [List.take_succ_eq_append_getElem (by rw [hhl]; exact h)]
    simp [halfL]
  have ht : ∀ k (h : k < L.length), (twiceL L).take (k + 1) = (twiceL L).take k ++ [(L[k].1, 2 * (L[k].2.1 / 2), L[k].2.2)] := fun k h => by
    rw [List.take_succ_eq_append_getElem (by rw [htl]; exact h)]
    simp [twiceL]
  have P : Hid (_ ∧ _ ∧ _ ∧ _) := ⟨p0, p1, p2, hP⟩
  have HM : Hid (_ ∧ _ ∧ _ ∧ _ ∧ _ ∧ _ ∧ _ ∧ _) := ⟨hml, o1, o2, hhl, htl, hw0, hh, ht⟩
  clear p0 p1 p2 hP hml o1 o2 hhl htl hw0 hh ht hm f1 f2 hok hv hwf x0 x1 x2 hlen
  go_enter Try.func7, Try.ntmps7
  go_wp2_with fail
  refine P.out.2.2.2.mono ?_
  rintro r w1 ⟨pL, cL, rfl, ho1, hb1⟩
  have hLd : LdAt w1 (.slice pL L.length cL) L := rowAt_own ho1
  obtain ⟨_, _, e0, hc1, hm1, paL⟩ := hLd.parts
  injection e0 with e0 _ e1
  subst e0 e1
  unfold maxLen at hm1
  have H1 : Hid (_ ∧ _ ∧ _) := ⟨hLd, hb1, paL⟩
  clear ho1 hb1 hLd paL
  go_wp2_with fail
  refine (P.out.2.1 _).mono ?_
  rintro r w' ⟨rfl, rfl⟩
  go_wp2_with fail
  refine (P.out.1 _).mono ?_
  rintro r w' ⟨rfl, rfl⟩
  go_wp2_with fail
  refine (P.out.2.2.1 _).mono ?_
  rintro r w1 ⟨rfl, rfl⟩
  clear P
  go_wp2
  go_loopw [15, 16, 17] (fun tw hf i wr => ∃ (k : Nat) (pT : Option Addr) (cT : Nat) (pH : Option Addr) (cH : Nat), i = .int .i64 k ∧ tw = .slice pT k cT ∧ hf = .slice pH k cH ∧ k ≤ L.length ∧ Two w1.heap.size pH cH k ((halfL L).take k) pT cT k ((twiceL L).take k) wr ∧ Below w1.heap.size w1 wr) (fun _ _ i _ => L.length - (intOf i).toNat)
  case atStart => exact ⟨0, none, 0, none, 0, rfl, rfl, rfl, Nat.zero_le _, ⟨World.ownsRow_nil _ _ _ _, World.ownsRow_nil _ _ _ _, fun g hg => by cases hg⟩, Below.refl _ _⟩
  case round =>
    obtain ⟨k, pT, cT, pH, cH, rfl, rfl, rfl, hk, h2, hb⟩ := hrel
    by_cases hlt : k < L.length
    · obtain ⟨b1, o1, rfl, hb1, c1, c2, c3⟩ := H1.out.2.2 k hlt
      replace c1 := (hb.cell (p := ⟨b1, o1 + k * 3, none⟩) hb1).trans c1
      replace c2 := (hb.cell (p := ⟨b1, o1 + k * 3 + 1, none⟩) hb1).trans c2
      replace c3 := (hb.cell (p := ⟨b1, o1 + k * 3 + 2, none⟩) hb1).trans c3
      have hbl1 : b1 < wr.heap.size := Nat.lt_of_lt_of_le hb1 hb.size
      obtain ⟨w0, w8⟩ := HM.out.2.2.2.2.2.1 k hlt
      have hh := HM.out.2.2.2.2.2.2.1 k hlt
      have ht := HM.out.2.2.2.2.2.2.2 k hlt
      obtain ⟨⟨y1, y2, y3⟩, hy⟩ : ∃ y, y = L[k] := ⟨_, rfl⟩
      rw [← hy] at c1 c2 c3 w0 w8 hh ht
      replace w0 : 0 ≤ y2 := w0
      replace w8 : y2 ≤ 8 := w8
      obtain ⟨qH, dH, w5, r1, hbox, qT, dT, w6, r2, t2, b2⟩ := both h2 hb.size (by omega) y1 (y2 / 2) y3 (2 * (y2 / 2))
      have g0 : w5.cell? ⟨wr.heap.size, 0, none⟩ = some (.int .i64 y1) := by simp [World.cell?, hbox]
      have g1 : w5.cell? ⟨wr.heap.size, 1, none⟩ = some (.int .i64 (y2 / 2)) := by simp [World.cell?, hbox]
      have g2 : w5.cell? ⟨wr.heap.size, 2, none⟩ = some (.int .i64 y3) := by simp [World.cell?, hbox]
      have gf : w5.frozen? ⟨wr.heap.size, 1, none⟩ = false := by simp [World.frozen?, hbox]
      have gl : wr.heap.size < w5.heap.size := (Array.getElem?_eq_some_iff.1 hbox).1
      rw [← hh, ← ht] at t2
      have HR : Hid (_ ∧ _ ∧ _ ∧ _) := ⟨r1, r2, t2, hb.trans b2⟩
      clear r1 r2 t2 b2 hb h2 hbox hh ht hy hb1
      have hkI : (k : Int) < (L.length : Int) := by omega
      go_wp2_with (first | (at_builtin; (with_reducible refine wpList_append_eq rfl _ _ 26 rfl (.slice pH k cH) (.slice (some ⟨wr.heap.size + 1, 0, none⟩) 1 1) (.slice qH (k + 1) dH) w5 ?hs ?hx ?hr ?_); (case hs => rfl); (case hx => rfl); (case hr => exact HR.out.1)) | (at_builtin; (with_reducible refine wpList_append_eq rfl _ _ 26 rfl (.slice pT k cT) (.slice (some ⟨w5.heap.size, 0, none⟩) 1 1) (.slice qT (k + 1) dT) w6 ?hs ?hx ?hr ?_); (case hs => rfl); (case hx => rfl); (case hr => exact HR.out.2.1)))
      go_roundw
      case rel => exact ⟨k + 1, qT, dT, qH, dH, by simp, rfl, rfl, hlt, HR.out.2.2.1, HR.out.2.2.2⟩
      case measure => simp [intOf]; omega
    · obtain rfl : k = L.length := by omega
      have hH : LdAt wr (.slice pH L.length cH) (halfL L) := by
        have := rowAt_own h2.1
        rw [← HM.out.2.2.2.1, List.take_length] at this
        rw [← HM.out.2.2.2.1]
        exact this
      have hT : LdAt wr (.slice pT L.length cT) (twiceL L) := by
        have := rowAt_own h2.2.1
        rw [← HM.out.2.2.2.2.1, List.take_length] at this
        rw [← HM.out.2.2.2.2.1]
        exact this
      have H2 : Hid (_ ∧ _ ∧ _) := ⟨hH, hT, H1.out.2.1.trans (hb.mono H1.out.2.1.size)⟩
      clear hH hT h2 hb
      go_wp2_with fail
      refine (caps_any _ (halfL L) _ _ _ _ H2.out.1).mono ?_
      rw [HM.out.2.1]
      rintro r w2 hr2
      obtain ⟨p2, c2, rfl, hi2, hb2⟩ := hr2.form
      clear hr2
      have hlm := HM.out.1
      rw [show ((0 : Int), m).2.length = L.length from hlm] at hi2 ⊢
      have H3 : Hid (LdAt w2 (.slice pT L.length cT) (twiceL L) ∧ IntsAt w2 (.slice p2 L.length c2) m ∧ Below w.heap.size w w2) := ⟨H2.out.2.1.below hb2, hi2, H2.out.2.2.trans (hb2.mono H2.out.2.2.size)⟩
      clear hi2 hb2 hlm H2
      go_wp2_with fail
      refine (caps_any _ (twiceL L) _ _ _ _ H3.out.1).mono ?_
      rw [HM.out.2.2.1]
      rintro r w3 hr3
      obtain ⟨p3, c3, rfl, hi3, hb3⟩ := hr3.form
      clear hr3
      have hlm := HM.out.1
      rw [show ((0 : Int), m).2.length = L.length from hlm] at hi3 ⊢
      have H4 : Hid (IntsAt w3 (.slice p2 L.length c2) m ∧ IntsAt w3 (.slice p3 L.length c3) m ∧ Below w.heap.size w w3) := ⟨H3.out.2.1.below hb3, hi3, H3.out.2.2.trans (hb3.mono H3.out.2.2.size)⟩
      clear hi3 hb3 hlm H3
      go_wp2_with fail
      refine (keepInts _ _ m _ H4.out.1 H4.out.2.1).mono ?_
      rintro r w4 ⟨rfl, hb4⟩
      have H5 : Hid _ := H4.out.2.2.trans (hb4.mono H4.out.2.2.size)
      clear hb4
      go_wp2
      go_ret
      exact ⟨rfl, H5.out⟩
end Go.Proofs.Ytmjdkobmklkilaa.Walks
