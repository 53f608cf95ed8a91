/-
  PickFits: who is picked takes something, and has room; somebody is. No condition.
-/
import Derived.Test.YtjkiahdeaeiopaaKeepP
import Derived.WalkKit
import Derived.ProofKit
import Derived.Handy
import Derived.LoopTactic
import Derived.Below
import Derived.Laws.BitsAllLaws
import Derived.RegionTactic
import Derived.Deep.RegionHeld3
import Derived.Deep.DrawnRows
import Derived.Deep.AppendLies
import Derived.Laws.OwnMore
import Derived.Deep.Onto
import Derived.Deep.QuietTactic
import Derived.BigQuiet
namespace Go.Proofs.Ytjkiahdeaeiopaa.Walks
open Go.RowKit
set_option linter.unusedVariables false
set_option linter.unusedSimpArgs false
attribute [local go_sem ↓] Go.wp_at_zero Go.wp_at_succ

set_option maxHeartbeats 8000000 in
set_option maxRecDepth 100000 in
theorem fits_law (w : World) (u : Value) (rw_ : List Int) (hu : IntsAt w u rw_) (hwu : ∀ n ∈ rw_, (Lit.int .i64 n).wf = true) (hn : rw_.length ≤ 17592186044416) (v : Value) (raw : List Tm) (hv : TmAt w v raw) (hwf : ∀ t ∈ raw, (Lit.int .i64 t.1).wf = true ∧ (Lit.int .i64 t.2).wf = true) (hlen : raw.length ≤ 140737488351232 / 16) (a : Int) (x0 : (Lit.int .i64 a).wf = true) (b : Int) (x1 : (Lit.int .i64 b).wf = true) (c : Int) (x2 : (Lit.int .i64 c).wf = true) (d : Int) (x3 : (Lit.int .i64 d).wf = true) :
    Calls Try.prog 4 #[u, v, .int .i64 a, .int .i64 b, .int .i64 c, .int .i64 d] w fun r w' => r = .returned (.bool true) ∧ Below w.heap.size w w' := by
  obtain ⟨pv, cv, rfl, _, _, _⟩ := hv.parts
  obtain ⟨pu, cu, rfl, _, _, _⟩ := hu.parts
  obtain ⟨k1, hk1, p1⟩ := picked_some b 20 x1 (by omega) (by omega)
  obtain ⟨k0, hk0, p0⟩ := picked_some a (20 - k1) x0 (by omega) (by omega)
  obtain ⟨k2, hk2, p2⟩ := picked_some c 4 x2 (by omega) (by omega)
  obtain ⟨k3, hk3, p3⟩ := picked_some d 13 x3 (by omega) (by omega)
  rw [show ((20 - k1 : Nat) : Int) = 20 - (1 + k1) + 1 by omega] at p0
  have hok := partsL_ok raw
  obtain ⟨s1, s2, s3⟩ := said_flows raw k2
  have hP := parts_any _ raw w hv hwf
  obtain ⟨L, hL⟩ : ∃ L, L = partsL raw := ⟨_, rfl⟩
  obtain ⟨F, hF⟩ : ∃ F, F = min (flw L) 40 := ⟨_, rfl⟩
  rw [← hL] at hok hP s1 s2 s3
  rw [← hF] at hP s3
  have hFb : 0 ≤ F ∧ F ≤ 40 := by omega
  have hl12 := hok.1
  have htb := tot_bd L (okFrom_all hok.2)
  obtain ⟨f, hf⟩ : ∃ f, f = min (F + k2) 40 := ⟨_, rfl⟩
  have fF : Fac (1 + (k1 : Int) + k0) (1 + k1) f := ⟨⟨by omega, by omega, by omega⟩, by omega, by omega⟩
  have hpk := fun ws (hw : ws.length ≤ 12) (h0 : 0 < tot L) => picked_one (ws := ws) (t := (k3 : Int)) hok fF (by omega) hw h0 (by omega)
  have hpn := fun ws (hw : ws.length ≤ 12) (h0 : ¬ 0 < tot L) => picked_none (ws := ws) (t := (k3 : Int)) hok fF (by omega) hw h0
  have P : Hid (_ ∧ _ ∧ _ ∧ _ ∧ _ ∧ _ ∧ _) := ⟨p0, p1, p2, p3, hP, hu, hwu⟩
  have Q : Hid (_ ∧ _) := ⟨hpk, hpn⟩
  clear p0 p1 p2 p3 hP hu hwu hpk hpn hok hL hF hv hwf x0 x1 x2 x3 hlen hn s1 s2 s3 fF
  obtain ⟨T, hT⟩ : ∃ T, T = tot L := ⟨_, rfl⟩
  rw [← hT] at P Q htb
  clear hT
  go_enter Try.func4, Try.ntmps4
  go_wp2_with fail
  refine P.out.2.2.2.2.1.mono ?_
  rintro r w1 ⟨pL, cL, rfl, ho1, hb1⟩
  have hLd : LdAt w1 (.slice pL L.length cL) L := rowAt_own ho1
  have H1 : Hid (_ ∧ _ ∧ _) := ⟨hLd, P.out.2.2.2.2.2.1.below hb1, hb1⟩
  clear ho1 hb1 hLd
  go_wp2_with fail
  refine (P.out.2.1 _).mono ?_
  rintro r w' ⟨rfl, rfl⟩
  go_wp2_with fail
  refine (P.out.1 _).mono ?_
  rintro r w' ⟨rfl, rfl⟩
  go_wp2_with fail
  refine (P.out.2.2.1 _).mono ?_
  rintro r w1 ⟨rfl, rfl⟩
  have hfb : 0 ≤ f ∧ f ≤ 40 := by omega
  rcases (by omega : (F + k2 ≤ 40 ∧ f = F + k2) ∨ (40 < F + k2 ∧ f = 40)) with ⟨hm, rfl⟩ | ⟨hm, rfl⟩
  all_goals
    clear hf
    go_wp2_with fail
    refine (walkOf_any _ rw_ _ H1.out.2.1 P.out.2.2.2.2.2.2).mono ?_
    rintro r w2 ⟨ws, pw, cw, rfl, hws, ho2, hb2⟩
    have H2 : Hid (LdAt w2 (.slice pL L.length cL) L ∧ IntsAt w2 (.slice pw ws.length cw) ws ∧ Below w.heap.size w w2 ∧ ws.length ≤ 12) := ⟨H1.out.1.below hb2, own_ints ho2, H1.out.2.2.trans (hb2.mono H1.out.2.2.size), walk_len hws⟩
    clear ho2 hb2 hws H1
    go_wp2_with fail
    refine (P.out.2.2.2.1 _).mono ?_
    rintro r w2 ⟨rfl, rfl⟩
    go_wp2_with fail
    refine (pick_any _ _ ws L _ _ _ _ _ H2.out.2.1 H2.out.1).mono ?_
    by_cases h0 : 0 < T
    · obtain ⟨y1, y2, y3, cp, ho, how, hok, hy, hr, hcp, HC0⟩ := Q.out.1 ws H2.out.2.2.2 h0
      rw [ho]
      have hy3 : 0 ≤ y3 ∧ y3 ≤ 40 := hok.2
      have hy2 : y2 ≤ 8 := hok.1.2
      have hle : decide (y3 + 1 ≤ cp) = true := decide_eq_true (by omega)
      have hgt : decide (0 < y2) = true := decide_eq_true hy
      have hT0 : (T == 0) = false := by rw [beq_eq_false_iff_ne]; omega
      have hmx : max y2 1 = y2 := by omega
      have HC : Hid (_ ∧ _ ∧ _) := ⟨HC0, how, hmx⟩
      clear hok hr how h0 HC0 ho hmx
      rintro r w3 ⟨rfl, hb3⟩
      have H3 : Hid (LdAt w3 (.slice pL L.length cL) L ∧ Below w.heap.size w w3) := ⟨H2.out.1.below hb3, H2.out.2.2.1.trans (hb3.mono H2.out.2.2.1.size)⟩
      clear hb3
      go_wp2_with fail
      refine (loadOf_any _ L _ _ H3.out.1).mono ?_
      rw [HC.out.2.1]
      rintro r w4 ⟨rfl, hb4⟩
      have H4 : Hid (Below w.heap.size w w4) := H3.out.2.trans (hb4.mono H3.out.2.size)
      clear hb4
      go_wp2_with fail
      try rw [HC.out.2.2]
      refine (HC.out.1 _).mono ?_
      rintro r w5 ⟨rfl, rfl⟩
      go_wp2
      go_ret
      exact ⟨rfl, H4.out.alloc H4.out.size _⟩
    · rw [Q.out.2 ws H2.out.2.2.2 (by omega)]
      have hT0 : T = 0 := by omega
      rintro r w3 ⟨rfl, hb3⟩
      have H3 : Hid (Below w.heap.size w w3) := H2.out.2.2.1.trans (hb3.mono H2.out.2.2.1.size)
      clear hb3 h0
      subst hT0
      go_wp2
      go_ret
      exact ⟨rfl, H3.out⟩
end Go.Proofs.Ytjkiahdeaeiopaa.Walks
