/-
  PickLeast: where nobody is tried, no one that has room has fewer flows for its weight. No condition.
-/
import Derived.Test.YtjkiahdeaeiopaaKeepP
import Derived.WalkKit
import Derived.ProofKit
import Derived.Handy
import Derived.LoopTactic
import Derived.Below
import Derived.Laws.BitsAllLaws
import Derived.RegionTactic
import Derived.Deep.RegionHeld3
import Derived.Deep.DrawnRows
import Derived.Deep.AppendLies
import Derived.Laws.OwnMore
import Derived.Deep.Onto
import Derived.Deep.QuietTactic
import Derived.BigQuiet
namespace Go.Proofs.Ytjkiahdeaeiopaa.Walks
open Go.RowKit
set_option linter.unusedVariables false
set_option linter.unusedSimpArgs false
attribute [local go_sem ↓] Go.wp_at_zero Go.wp_at_succ

theorem least_out {l : List Ld} {a b f : Int} (hok : LOk l) (hf : Fac a b f) {ws : List Int} (hw : ws.length ≤ 12) (h0 : 0 < tot l) (hfl : flw l ≤ f) :
    ∃ y1 y2 y3 : Int, pickOut ws l a b f 0 = (y1, 0) ∧ loadV l y1 = (y1, y2, y3) ∧ LdOk (y1, y2, y3) ∧ 0 < y2 ∧ ∀ j (hj : j < l.length), l[j].2.1 ≠ 0 →
      ∃ cp : Int, (∀ W, Calls Try.prog 19 #[.int .i64 a, .int .i64 b, .int .i64 f, .int .i64 l[j].2.1, .int .i64 (tot l)] W fun r w' => r = .returned (.tuple #[.int .i64 cp, .int .i64 0]) ∧ w' = W) ∧ 1 ≤ cp ∧ cp ≤ 78720 ∧ (l[j].2.2 < cp → y3 * l[j].2.1 ≤ l[j].2.2 * y2) := by
  obtain ⟨i, hi, hc, hr, hw0⟩ := chosen_some hok hf h0 hfl ws (0 : Int).toNat
  have ho : pickOut ws l a b f 0 = (l[i].1, 0) := by
    rw [pickOut_is hok hf (by omega) hw, if_pos h0, hc]
    simp [chosenOut, hi]
  have hb := best_least (roomW (a := a) (b := b) (c := f) hok) l.length
  unfold chosen at hc
  rw [show (0 : Int).toNat = 0 from rfl, along_zero] at hc
  simp only at hc
  rw [hc] at hb
  refine ⟨l[i].1, l[i].2.1, l[i].2.2, ho, load_own hok.2 hi, okFrom_all hok.2 l[i] (List.getElem_mem hi), hw0, fun j hj hj0 => ?_⟩
  have hfi := fits_of hok hf (x := l[j]) (List.getElem_mem hj) hj0
  have hce : capE a b f (tot l) l[j] = capV a b f l[j].2.1 (tot l) := by unfold capE; rw [if_neg hj0]
  refine ⟨_, fun W => cap_ok _ _ _ _ _ W hfi, (capV_le hfi).2.2.1, (capV_le hfi).2.2.2, fun hlt => ?_⟩
  have hrm : roomB l (capsL a b f l) j = true := by rw [room_caps hj, hce]; exact decide_eq_true hlt
  have h1 := hb.2 j (Nat.zero_le _) hj hrm
  have e1 : l.getD i ld0 = l[i] := by simp [hi]
  have e2 : l.getD j ld0 = l[j] := by simp [hj]
  rw [e1, e2] at h1
  rcases Nat.lt_or_ge j i with hji | hji
  · exact Int.le_of_lt (h1.1 hji)
  · exact h1.2 hji

set_option maxHeartbeats 8000000 in
set_option maxRecDepth 100000 in
theorem least_law (w : World) (u : Value) (rw_ : List Int) (hu : IntsAt w u rw_) (hwu : ∀ n ∈ rw_, (Lit.int .i64 n).wf = true) (hn : rw_.length ≤ 17592186044416) (v : Value) (raw : List Tm) (hv : TmAt w v raw) (hwf : ∀ t ∈ raw, (Lit.int .i64 t.1).wf = true ∧ (Lit.int .i64 t.2).wf = true) (hlen : raw.length ≤ 140737488351232 / 16) (c : Int) (x2 : (Lit.int .i64 c).wf = true) :
    Calls Try.prog 6 #[u, v, .int .i64 c] w fun r w' => r = .returned (.bool true) ∧ Below w.heap.size w w' := by
  obtain ⟨pv, cv, rfl, _, _, _⟩ := hv.parts
  obtain ⟨pu, cu, rfl, _, _, _⟩ := hu.parts
  obtain ⟨k2, hk2, p2⟩ := picked_some c 4 x2 (by omega) (by omega)
  have hok := partsL_ok raw
  obtain ⟨s1, s2, s3⟩ := said_flows raw k2
  have hP := parts_any _ raw w hv hwf
  obtain ⟨L, hL⟩ : ∃ L, L = partsL raw := ⟨_, rfl⟩
  obtain ⟨F, hF⟩ : ∃ F, F = min (flw L) 40 := ⟨_, rfl⟩
  rw [← hL] at hok hP s1 s2 s3
  rw [← hF] at hP s3
  have hFb : 0 ≤ F ∧ F ≤ 40 := by omega
  have hl12 := hok.1
  have hall := okFrom_all hok.2
  have htb := tot_bd L hall
  obtain ⟨f, hf⟩ : ∃ f, f = min (F + k2) 40 := ⟨_, rfl⟩
  have fF : Fac 5 4 f := ⟨⟨by omega, by omega, by omega⟩, by omega, by omega⟩
  have hpk := fun ws (hw : ws.length ≤ 12) (h0 : 0 < tot L) => least_out (ws := ws) hok fF hw h0 (by omega)
  have hpn := fun ws (hw : ws.length ≤ 12) (h0 : tot L ≤ 0) => picked_none (ws := ws) (t := 0) hok fF (by omega) hw (by omega)
  have P : Hid (_ ∧ _ ∧ _ ∧ _) := ⟨p2, hP, hu, hwu⟩
  have Q : Hid (_ ∧ _ ∧ _) := ⟨hpk, hpn, hall⟩
  clear p2 hP hu hwu hpk hpn hok hL hF hv hwf x2 hlen hn s1 s2 s3 fF hall
  obtain ⟨T, hT⟩ : ∃ T, T = tot L := ⟨_, rfl⟩
  rw [← hT] at P Q htb
  clear hT
  go_enter Try.func6, Try.ntmps6
  go_wp2_with fail
  refine P.out.2.1.mono ?_
  rintro r w1 ⟨pL, cL, rfl, ho1, hb1⟩
  have hLd : LdAt w1 (.slice pL L.length cL) L := rowAt_own ho1
  have H1 : Hid (_ ∧ _ ∧ _) := ⟨hLd, P.out.2.2.1.below hb1, hb1⟩
  clear ho1 hb1 hLd
  go_wp2_with fail
  refine (P.out.1 _).mono ?_
  rintro r w1 ⟨rfl, rfl⟩
  have hfb : 0 ≤ f ∧ f ≤ 40 := by omega
  rcases (by omega : (F + k2 ≤ 40 ∧ f = F + k2) ∨ (40 < F + k2 ∧ f = 40)) with ⟨hm, rfl⟩ | ⟨hm, rfl⟩
  all_goals
    clear hf
    go_wp2_with fail
    refine (walkOf_any _ rw_ _ H1.out.2.1 P.out.2.2.2).mono ?_
    rintro r w2 ⟨ws, pw, cw, rfl, hws, ho2, hb2⟩
    have hw12 := walk_len hws
    have H2 : Hid (LdAt w2 (.slice pL L.length cL) L ∧ IntsAt w2 (.slice pw ws.length cw) ws ∧ Below w.heap.size w w2) := ⟨H1.out.1.below hb2, own_ints ho2, H1.out.2.2.trans (hb2.mono H1.out.2.2.size)⟩
    clear ho2 hb2 hws H1
    go_wp2_with fail
    refine (pick_any _ _ ws L _ _ _ _ _ H2.out.2.1 H2.out.1).mono ?_
    by_cases h0 : 0 < T
    case neg =>
      rw [Q.out.2.1 ws hw12 (by omega)]
      have hT0 : T = 0 := by omega
      rintro r w3 ⟨rfl, hb3⟩
      have H3 : Hid (Below w.heap.size w w3) := H2.out.2.2.trans (hb3.mono H2.out.2.2.size)
      clear hb3 h0
      subst hT0
      go_wp2
      go_ret
      exact ⟨rfl, H3.out⟩
    case pos =>
    obtain ⟨y1, y2, y3, ho, how, hyok, hy2, hrd⟩ := Q.out.1 ws hw12 h0
    rw [ho]
    rintro r w3 ⟨rfl, hb3⟩
    have hT0 : (T == 0) = false := by rw [beq_eq_false_iff_ne]; omega
    have H3 : Hid (LdAt w3 (.slice pL L.length cL) L ∧ Below w.heap.size w w3 ∧ _ ∧ _) := ⟨H2.out.1.below hb3, H2.out.2.2.trans (hb3.mono H2.out.2.2.size), how, hrd⟩
    have hyb : (0 ≤ y2 ∧ y2 ≤ 8) ∧ 0 ≤ y3 ∧ y3 ≤ 40 := hyok
    have hy20 : (y2 == 0) = false := by rw [beq_eq_false_iff_ne]; omega
    clear hb3 ho how hrd hyok H2 h0
    go_wp2_with fail
    refine (loadOf_any _ L _ _ H3.out.1).mono ?_
    rw [H3.out.2.2.1]
    rintro r w4 ⟨rfl, hb4⟩
    obtain ⟨W5, hW5⟩ : ∃ W5, W5 = w4.alloc (.cells #[.int .i64 y1, .int .i64 y2, .int .i64 y3] 37) := ⟨_, rfl⟩
    have hbx : W5.heap[w4.heap.size]? = some (.cells #[.int .i64 y1, .int .i64 y2, .int .i64 y3] 37 (0, 0)) := by rw [hW5]; exact heap_alloc_new _ _
    have hlx : w4.heap.size < W5.heap.size := (Array.getElem?_eq_some_iff.1 hbx).1
    have f1 : W5.cell? ⟨w4.heap.size, 1, none⟩ = some (.int .i64 y2) := by simp [World.cell?, hbx]
    have f2 : W5.cell? ⟨w4.heap.size, 2, none⟩ = some (.int .i64 y3) := by simp [World.cell?, hbx]
    have hB5 : Below w4.heap.size w4 W5 := by rw [hW5]; exact below_newL _
    have hL5 := (H3.out.1.below hb4).below hB5
    have hB4 := H3.out.2.1.trans (hb4.mono H3.out.2.1.size)
    obtain ⟨_, _, q0, _, _, pL5⟩ := hL5.parts
    obtain ⟨rfl, rfl⟩ := (by injection q0 with q0 _ q1; exact ⟨q0, q1⟩ : pL = _ ∧ cL = _)
    have H5 : Hid (_ ∧ _ ∧ _ ∧ _ ∧ _ ∧ _) := ⟨hW5, pL5, hB4.trans (hB5.mono hB4.size), f1, f2, hlx⟩
    clear hb4 hW5 hbx hlx f1 f2 hB5 hL5 hB4 q0 pL5
    go_wp2
    rw [← H5.out.1]
    go_loopw [14] (fun i wr => ∃ k : Nat, i = .int .i64 k ∧ k ≤ L.length ∧ Below W5.heap.size W5 wr) (fun i _ => L.length - (intOf i).toNat)
    case atStart => exact ⟨0, rfl, Nat.zero_le _, Below.refl _ _⟩
    case round =>
      obtain ⟨k, rfl, hk, hb⟩ := hrel
      by_cases hlt : k < L.length
      · obtain ⟨b1, o1, rfl, hb1, c1, c2, c3⟩ := H5.out.2.1 k hlt
        replace c1 := (hb.cell (p := ⟨b1, o1 + k * 3, none⟩) hb1).trans c1
        replace c2 := (hb.cell (p := ⟨b1, o1 + k * 3 + 1, none⟩) hb1).trans c2
        replace c3 := (hb.cell (p := ⟨b1, o1 + k * 3 + 2, none⟩) hb1).trans c3
        have g1 := (hb.cell (p := ⟨w4.heap.size, 1, none⟩) H5.out.2.2.2.2.2).trans H5.out.2.2.2.1
        have g2 := (hb.cell (p := ⟨w4.heap.size, 2, none⟩) H5.out.2.2.2.2.2).trans H5.out.2.2.2.2.1
        have hbl : b1 < wr.heap.size := Nat.lt_of_lt_of_le hb1 hb.size
        have hblx : w4.heap.size < wr.heap.size := Nat.lt_of_lt_of_le H5.out.2.2.2.2.2 hb.size
        have hkI : (k : Int) < (L.length : Int) := by omega
        have hrd := H3.out.2.2.2 k hlt
        have hzok := Q.out.2.2 L[k] (List.getElem_mem hlt)
        obtain ⟨⟨z1, z2, z3⟩, hz⟩ : ∃ z, z = L[k] := ⟨_, rfl⟩
        rw [← hz] at hrd c1 c2 c3 hzok
        simp only at hrd
        have hzb : (0 ≤ z2 ∧ z2 ≤ 8) ∧ 0 ≤ z3 ∧ z3 ≤ 40 := hzok
        have HK : Hid (_ ∧ True) := ⟨hb, trivial⟩
        clear hb1 hb hz hzok
        by_cases hz0 : z2 = 0
        · subst hz0
          clear hrd
          go_wp2
          go_roundw
          case rel => exact ⟨k + 1, by simp, hlt, HK.out.1.alloc HK.out.1.size _⟩
          case measure => simp [intOf]; omega
        · obtain ⟨cp, hcap, hc1, hc2, hcase⟩ := hrd hz0
          have hz2' : (z2 == 0) = false := by rw [beq_eq_false_iff_ne]; exact hz0
          have HC : Hid (_ ∧ True) := ⟨hcap, trivial⟩
          have m1 : 0 ≤ z3 * y2 := Int.mul_nonneg hzb.2.1 hyb.1.1
          have m2 : z3 * y2 ≤ 40 * 8 := Int.mul_le_mul hzb.2.2 hyb.1.2 hyb.1.1 (by omega)
          have m3 : 0 ≤ y3 * z2 := Int.mul_nonneg hyb.2.1 hzb.1.1
          have m4 : y3 * z2 ≤ 40 * 8 := Int.mul_le_mul hyb.2.2 hzb.1.2 hzb.1.1 (by omega)
          clear hcap hz0 hrd
          by_cases hlt3 : z3 < cp
          · have hd3 : decide (z3 < cp) = true := decide_eq_true hlt3
            have hd4 : decide (z3 * y2 < y3 * z2) = false := decide_eq_false (by have := hcase hlt3; omega)
            clear hcase hlt3
            go_wp2_with fail
            refine (HC.out.1 _).mono ?_
            rintro r w5 ⟨rfl, hw5⟩
            rw [hw5]
            clear hw5
            go_wp2
            go_roundw
            case rel => exact ⟨k + 1, by simp, hlt, HK.out.1.alloc HK.out.1.size _⟩
            case measure => simp [intOf]; omega
          · have hd3 : decide (z3 < cp) = false := decide_eq_false (by omega)
            clear hcase hlt3
            go_wp2_with fail
            refine (HC.out.1 _).mono ?_
            rintro r w5 ⟨rfl, hw5⟩
            rw [hw5]
            clear hw5
            go_wp2
            go_roundw
            case rel => exact ⟨k + 1, by simp, hlt, HK.out.1.alloc HK.out.1.size _⟩
            case measure => simp [intOf]; omega
      · have HB : Hid _ := H5.out.2.2.1.trans (hb.mono H5.out.2.2.1.size)
        clear hb
        go_wp2
        go_ret
        exact ⟨rfl, HB.out⟩
end Go.Proofs.Ytjkiahdeaeiopaa.Walks
