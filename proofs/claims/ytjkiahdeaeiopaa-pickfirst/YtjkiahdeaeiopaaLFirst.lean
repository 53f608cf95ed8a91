/-
  PickFirst: the first along the ring that takes something and has room is picked. No condition.
-/
import Derived.Test.YtjkiahdeaeiopaaKeepP
import Derived.WalkKit
import Derived.ProofKit
import Derived.Handy
import Derived.LoopTactic
import Derived.Below
import Derived.Laws.BitsAllLaws
import Derived.RegionTactic
import Derived.Deep.RegionHeld3
import Derived.Deep.DrawnRows
import Derived.Deep.AppendLies
import Derived.Laws.OwnMore
import Derived.Deep.Onto
import Derived.Deep.QuietTactic
import Derived.BigQuiet
namespace Go.Proofs.Ytjkiahdeaeiopaa.Walks
open Go.RowKit
set_option linter.unusedVariables false
set_option linter.unusedSimpArgs false
attribute [local go_sem ↓] Go.wp_at_zero Go.wp_at_succ

/-- The first one with room in the walk. -/
def alongF (l : List Ld) (m : List Int) : List Int → Option Nat
  | [] => none
  | b :: ws => match find (mineB b) l with
    | none => alongF l m ws
    | some i => if roomB l m i then some i else alongF l m ws

theorem along_free {l : List Ld} {m : List Int} : ∀ {ws : List Int} {t : Nat}, ws.length ≤ t → alongV l m ws t = alongF l m ws
  | [], _, _ => rfl
  | b :: ws, t, h => by
    have h1 : ws.length + 1 ≤ t := by simpa using h
    unfold alongV alongF
    cases find (mineB b) l with
    | none => exact along_free (by omega)
    | some i =>
      simp only
      rw [if_neg (by omega)]
      by_cases hr : roomB l m i = true
      · rw [if_pos hr, if_pos hr]
      · rw [if_neg hr, if_neg hr]
        exact along_free (by omega)

theorem not_mine {b : Int} {x : Ld} (h : isB b x = false) : mineB b x = false := by
  unfold isB at h
  unfold mineB
  rw [h]
  rfl

theorem mine_find {l : List Ld} (hok : LOk l) (b : Int) : ((loadV l b).1 < 0 ∧ find (mineB b) l = none) ∨ (0 ≤ (loadV l b).1 ∧ (loadV l b).2.1 = 0 ∧ find (mineB b) l = none) ∨
    ∃ i, ∃ hi : i < l.length, loadV l b = l[i] ∧ l[i].1 = b ∧ 0 ≤ b ∧ 0 < l[i].2.1 ∧ find (mineB b) l = some i := by
  cases h : find (isB b) l with
  | none =>
    refine .inl ⟨by unfold loadV; rw [h]; exact (by decide : (-1 : Int) < 0), find_none fun t ht => not_mine (find_not h t ht)⟩
  | some i =>
    obtain ⟨hi, hb⟩ := find_is h
    have hb' : l[i].1 = b := by simpa [isB] using hb
    have hl : loadV l b = l[i] := by rw [← hb']; exact load_own hok.2 hi
    have hr := (rising hok.2).2 l[i] (List.getElem_mem hi)
    have hd := okFrom_all hok.2 l[i] (List.getElem_mem hi)
    have hp := List.pairwise_iff_getElem.1 (rising hok.2).1
    have huniq : ∀ j (hj : j < l.length), l[j].1 = b → j = i := fun j hj e => by
      rcases Nat.lt_trichotomy j i with h1 | h1 | h1
      · have := hp j i hj hi h1; omega
      · exact h1
      · have := hp i j hi hj h1; omega
    rw [hl]
    by_cases h0 : l[i].2.1 = 0
    · refine .inr (.inl ⟨by omega, h0, find_none fun t ht => ?_⟩)
      obtain ⟨j, hj, rfl⟩ := List.getElem_of_mem ht
      cases hm : mineB b l[j] with
      | false => rfl
      | true =>
        unfold mineB at hm
        rw [Bool.and_eq_true] at hm
        obtain rfl := huniq j hj (by simpa using hm.1)
        have := hm.2
        rw [h0] at this
        cases this
    · refine .inr (.inr ⟨i, hi, rfl, hb', by omega, by have := hd.1.1; omega, ?_⟩)
      refine find_some hi (fun t ht => ?_) ?_
      · obtain ⟨j, hj, rfl⟩ := List.getElem_of_mem ht
        rw [List.length_take] at hj
        rw [List.getElem_take]
        cases hm : mineB b l[j] with
        | false => rfl
        | true =>
          unfold mineB at hm
          rw [Bool.and_eq_true] at hm
          have := huniq j (by omega) (by simpa using hm.1)
          omega
      · unfold mineB
        rw [hb']
        simpa using h0

theorem first_round {l : List Ld} {a b f : Int} (hok : LOk l) (hf : Fac a b f) {ws : List Int} {k : Nat} (hk : k < ws.length) :
    (((loadV l ws[k]).1 < 0 ∨ 0 ≤ (loadV l ws[k]).1 ∧ (loadV l ws[k]).2.1 = 0) ∧ alongF l (capsL a b f l) (ws.drop k) = alongF l (capsL a b f l) (ws.drop (k + 1))) ∨
    (0 ≤ (loadV l ws[k]).1 ∧ LdOk (loadV l ws[k]) ∧ 0 < (loadV l ws[k]).2.1 ∧ ∃ cp : Int, (∀ W, Calls Try.prog 19 #[.int .i64 a, .int .i64 b, .int .i64 f, .int .i64 (loadV l ws[k]).2.1, .int .i64 (tot l)] W fun r w' => r = .returned (.tuple #[.int .i64 cp, .int .i64 0]) ∧ w' = W) ∧ 1 ≤ cp ∧ cp ≤ 78720 ∧
      ((loadV l ws[k]).2.2 < cp ∧ (∃ i, ∃ hi : i < l.length, alongF l (capsL a b f l) (ws.drop k) = some i ∧ l[i].1 = ws[k]) ∨ ¬ (loadV l ws[k]).2.2 < cp ∧ alongF l (capsL a b f l) (ws.drop k) = alongF l (capsL a b f l) (ws.drop (k + 1)))) := by
  rw [List.drop_eq_getElem_cons hk]
  generalize ws[k] = x
  rcases mine_find hok x with ⟨h1, h2⟩ | ⟨h1, h2, h3⟩ | ⟨i, hi, h1, h2, h3, h4, h5⟩
  · exact .inl ⟨.inl h1, by rw [alongF, h2]⟩
  · exact .inl ⟨.inr ⟨h1, h2⟩, by rw [alongF, h3]⟩
  · right
    have hfi := fits_of hok hf (x := l[i]) (List.getElem_mem hi) (by omega)
    have hce : capE a b f (tot l) l[i] = capV a b f l[i].2.1 (tot l) := by unfold capE; rw [if_neg (by omega)]
    have hrm := room_caps (a := a) (b := b) (c := f) hi
    rw [hce] at hrm
    rw [h1]
    refine ⟨by omega, okFrom_all hok.2 l[i] (List.getElem_mem hi), h4, _, fun W => cap_ok _ _ _ _ _ W hfi, (capV_le hfi).2.2.1, (capV_le hfi).2.2.2, ?_⟩
    by_cases hr : l[i].2.2 < capV a b f l[i].2.1 (tot l)
    · refine .inl ⟨hr, i, hi, ?_, h2⟩
      rw [alongF, h5]
      simp only
      rw [hrm, if_pos (decide_eq_true hr)]
    · refine .inr ⟨hr, ?_⟩
      rw [alongF, h5]
      simp only
      rw [hrm, if_neg (by rw [decide_eq_false hr]; exact Bool.false_ne_true)]

theorem first_out {l : List Ld} {a b f : Int} (hok : LOk l) (hf : Fac a b f) {ws : List Int} (hw : ws.length ≤ 12) (h0 : 0 < tot l) (hfl : flw l ≤ f) : ∃ y1 : Int, pickOut ws l a b f 12 = (y1, 0) ∧ ∀ i (hi : i < l.length), alongF l (capsL a b f l) ws = some i → y1 = l[i].1 := by
  obtain ⟨i, hi, hc, _, _⟩ := chosen_some hok hf h0 hfl ws (12 : Int).toNat
  have ho : pickOut ws l a b f 12 = ((l.getD i ld0).1, 0) := by
    rw [pickOut_is hok hf (by omega) hw, if_pos h0, hc]
    rfl
  refine ⟨_, ho, fun j hj h => ?_⟩
  unfold chosen at hc
  rw [along_free (show ws.length ≤ (12 : Int).toNat from hw), h] at hc
  injection hc with hc
  subst hc
  simp [hj]

set_option maxHeartbeats 8000000 in
set_option maxRecDepth 100000 in
theorem first_law (w : World) (u : Value) (rw_ : List Int) (hu : IntsAt w u rw_) (hwu : ∀ n ∈ rw_, (Lit.int .i64 n).wf = true) (hn : rw_.length ≤ 17592186044416) (v : Value) (raw : List Tm) (hv : TmAt w v raw) (hwf : ∀ t ∈ raw, (Lit.int .i64 t.1).wf = true ∧ (Lit.int .i64 t.2).wf = true) (hlen : raw.length ≤ 140737488351232 / 16) (c : Int) (x2 : (Lit.int .i64 c).wf = true) :
    Calls Try.prog 5 #[u, v, .int .i64 c] w fun r w' => r = .returned (.bool true) ∧ Below w.heap.size w w' := by
  obtain ⟨pv, cv, rfl, _, _, _⟩ := hv.parts
  obtain ⟨pu, cu, rfl, _, _, _⟩ := hu.parts
  obtain ⟨k2, hk2, p2⟩ := picked_some c 4 x2 (by omega) (by omega)
  have hok := partsL_ok raw
  obtain ⟨s1, s2, s3⟩ := said_flows raw k2
  have hP := parts_any _ raw w hv hwf
  obtain ⟨L, hL⟩ : ∃ L, L = partsL raw := ⟨_, rfl⟩
  obtain ⟨F, hF⟩ : ∃ F, F = min (flw L) 40 := ⟨_, rfl⟩
  rw [← hL] at hok hP s1 s2 s3
  rw [← hF] at hP s3
  have hFb : 0 ≤ F ∧ F ≤ 40 := by omega
  have hl12 := hok.1
  have htb := tot_bd L (okFrom_all hok.2)
  obtain ⟨f, hf⟩ : ∃ f, f = min (F + k2) 40 := ⟨_, rfl⟩
  have fF : Fac 5 4 f := ⟨⟨by omega, by omega, by omega⟩, by omega, by omega⟩
  have hpk := fun ws (hw : ws.length ≤ 12) (h0 : 0 < tot L) => first_out (ws := ws) hok fF hw h0 (by omega)
  have hpn := fun ws (hw : ws.length ≤ 12) (h0 : tot L ≤ 0) => picked_none (ws := ws) (t := 12) hok fF (by omega) hw (by omega)
  have hrd := fun ws k (hk : k < ws.length) => first_round (ws := ws) hok fF hk
  obtain ⟨m, hm⟩ : ∃ m, m = capsL 5 4 f L := ⟨_, rfl⟩
  rw [← hm] at hpk hrd
  have P : Hid (_ ∧ _ ∧ _ ∧ _) := ⟨p2, hP, hu, hwu⟩
  have Q : Hid (_ ∧ _ ∧ _) := ⟨hpk, hpn, hrd⟩
  clear p2 hP hu hwu hpk hpn hrd hm hok hL hF hv hwf x2 hlen hn s1 s2 s3 fF
  obtain ⟨T, hT⟩ : ∃ T, T = tot L := ⟨_, rfl⟩
  rw [← hT] at P Q htb
  clear hT
  go_enter Try.func5, Try.ntmps5
  go_wp2_with fail
  refine P.out.2.1.mono ?_
  rintro r w1 ⟨pL, cL, rfl, ho1, hb1⟩
  have hLd : LdAt w1 (.slice pL L.length cL) L := rowAt_own ho1
  have H1 : Hid (_ ∧ _ ∧ _) := ⟨hLd, P.out.2.2.1.below hb1, hb1⟩
  clear ho1 hb1 hLd
  go_wp2_with fail
  refine (walkOf_any _ rw_ _ H1.out.2.1 P.out.2.2.2).mono ?_
  rintro r w2 ⟨ws, pw, cw, rfl, hws, ho2, hb2⟩
  have hw12 := walk_len hws
  have H2 : Hid (LdAt w2 (.slice pL L.length cL) L ∧ IntsAt w2 (.slice pw ws.length cw) ws ∧ Below w.heap.size w w2) := ⟨H1.out.1.below hb2, own_ints ho2, H1.out.2.2.trans (hb2.mono H1.out.2.2.size)⟩
  clear ho2 hb2 hws H1
  go_wp2_with fail
  refine (P.out.1 _).mono ?_
  rintro r w2 ⟨rfl, rfl⟩
  have hfb : 0 ≤ f ∧ f ≤ 40 := by omega
  rcases (by omega : (F + k2 ≤ 40 ∧ f = F + k2) ∨ (40 < F + k2 ∧ f = 40)) with ⟨hm, rfl⟩ | ⟨hm, rfl⟩
  all_goals
    clear hf
    go_wp2_with fail
    refine (pick_any _ _ ws L _ _ _ _ _ H2.out.2.1 H2.out.1).mono ?_
    by_cases h0 : 0 < T
    case neg =>
      rw [Q.out.2.1 ws hw12 (by omega)]
      have hT0 : T = 0 := by omega
      rintro r w3 ⟨rfl, hb3⟩
      have H3 : Hid (Below w.heap.size w w3) := H2.out.2.2.trans (hb3.mono H2.out.2.2.size)
      clear hb3 h0
      subst hT0
      go_wp2
      go_ret
      exact ⟨rfl, H3.out⟩
    case pos =>
    obtain ⟨y1, ho, hy⟩ := Q.out.1 ws hw12 h0
    rw [ho]
    rintro r w3 ⟨rfl, hb3⟩
    have hT0 : (T == 0) = false := by rw [beq_eq_false_iff_ne]; omega
    have hIw := H2.out.2.1.below hb3
    obtain ⟨_, _, q0, _, hmw, pW⟩ := hIw.parts
    obtain ⟨rfl, rfl⟩ := (by injection q0 with q0 _ q1; exact ⟨q0, q1⟩ : pw = _ ∧ cw = _)
    have H3 : Hid (LdAt w3 (.slice pL L.length cL) L ∧ _ ∧ Below w.heap.size w w3 ∧ _) := ⟨H2.out.1.below hb3, pW, H2.out.2.2.trans (hb3.mono H2.out.2.2.size), hy⟩
    clear hb3 ho hy q0 hIw pW hmw H2 h0
    go_wp2
    go_loopw [14] (fun i wr => ∃ k : Nat, i = .int .i64 k ∧ k ≤ ws.length ∧ alongF L m ws = alongF L m (ws.drop k) ∧ Below w3.heap.size w3 wr) (fun i _ => ws.length - (intOf i).toNat)
    case atStart => exact ⟨0, rfl, Nat.zero_le _, rfl, Below.refl _ _⟩
    case round =>
      obtain ⟨k, rfl, hk, hal, hb⟩ := hrel
      by_cases hlt : k < ws.length
      · obtain ⟨b1, o1, rfl, hb1, c1⟩ := H3.out.2.1 k hlt
        replace c1 := (hb.cell (p := ⟨b1, o1 + k, none⟩) hb1).trans c1
        have hbl : b1 < wr.heap.size := Nat.lt_of_lt_of_le hb1 hb.size
        have hkI : (k : Int) < (ws.length : Int) := by omega
        have hrd := Q.out.2.2 ws k hlt
        obtain ⟨x, hx⟩ : ∃ x, x = ws[k] := ⟨_, rfl⟩
        rw [← hx] at c1 hrd
        obtain ⟨⟨z1, z2, z3⟩, hz⟩ : ∃ z, z = loadV L x := ⟨_, rfl⟩
        rw [← hz] at hrd
        simp only at hrd
        have HK : Hid (_ ∧ _ ∧ _) := ⟨hal, hb, hz⟩
        clear hal hx hb1 hb hz
        rcases hrd with ⟨hzz, hsk⟩ | ⟨hz1, hzok, hz2, cp, hcap, hc1, hc2, hcase⟩
        · have HS : Hid _ := hsk
          clear hsk
          have c1' := c1
          go_wp2_with fail
          refine (loadOf_any _ L _ _ (H3.out.1.below HK.out.2.1)).mono ?_
          rw [← HK.out.2.2]
          rintro r w4 ⟨rfl, hb4⟩
          have H4 : Hid (Below w3.heap.size w3 w4) := HK.out.2.1.trans (hb4.mono HK.out.2.1.size)
          clear hb4 c1 c1' hbl
          rcases hzz with hzz | ⟨hz1, hzz⟩
          · go_wp2
            go_roundw
            case rel => exact ⟨k + 1, by simp, hlt, by rw [HK.out.1, HS.out], H4.out.alloc H4.out.size _⟩
            case measure => simp [intOf]; omega
          · subst hzz
            have hz1' : ¬ z1 < 0 := by omega
            go_wp2
            go_roundw
            case rel => exact ⟨k + 1, by simp, hlt, by rw [HK.out.1, HS.out], H4.out.alloc H4.out.size _⟩
            case measure => simp [intOf]; omega
        · have HC : Hid (_ ∧ True) := ⟨hcap, trivial⟩
          have hz1' : ¬ z1 < 0 := by omega
          have hz2' : (z2 == 0) = false := by rw [beq_eq_false_iff_ne]; omega
          clear hcap hzok
          rcases hcase with ⟨hlt3, i, hi, hai, hix⟩ | ⟨hge, hsk⟩
          · have hyx := H3.out.2.2.2 i hi (HK.out.1.trans hai)
            rw [hix] at hyx
            subst hyx
            have hd3 : decide (z3 < cp) = true := decide_eq_true hlt3
            clear hai hix hi hlt3
            go_wp2_with fail
            refine (loadOf_any _ L _ _ (H3.out.1.below HK.out.2.1)).mono ?_
            rw [← HK.out.2.2]
            rintro r w4 ⟨rfl, hb4⟩
            have H4 : Hid (Below w3.heap.size w3 w4) := HK.out.2.1.trans (hb4.mono HK.out.2.1.size)
            have c4 := (hb4.cell (p := ⟨b1, o1 + k, none⟩) hbl).trans c1
            have hbl4 : b1 < w4.heap.size := Nat.lt_of_lt_of_le hbl hb4.size
            clear hb4 c1 hbl
            go_wp2_with fail
            refine (HC.out.1 _).mono ?_
            rintro r w5 ⟨rfl, rfl⟩
            go_wp2
            go_ret
            exact ⟨rfl, (H3.out.2.2.1.trans (H4.out.mono H3.out.2.2.1.size)).alloc (H3.out.2.2.1.trans (H4.out.mono H3.out.2.2.1.size)).size _⟩
          · have HS : Hid _ := hsk
            have hd3 : decide (z3 < cp) = false := decide_eq_false (by omega)
            clear hsk hge
            go_wp2_with fail
            refine (loadOf_any _ L _ _ (H3.out.1.below HK.out.2.1)).mono ?_
            rw [← HK.out.2.2]
            rintro r w4 ⟨rfl, hb4⟩
            have H4 : Hid (Below w3.heap.size w3 w4) := HK.out.2.1.trans (hb4.mono HK.out.2.1.size)
            clear hb4 c1 hbl
            go_wp2_with fail
            refine (HC.out.1 _).mono ?_
            rintro r w5 ⟨rfl, hw5⟩
            rw [hw5]
            clear hw5
            go_wp2
            go_roundw
            case rel => exact ⟨k + 1, by simp, hlt, by rw [HK.out.1, HS.out], H4.out.alloc H4.out.size _⟩
            case measure => simp [intOf]; omega
      · have HB : Hid _ := H3.out.2.2.1.trans (hb.mono H3.out.2.2.1.size)
        clear hal hb
        go_wp2
        go_ret
        exact ⟨rfl, HB.out⟩
end Go.Proofs.Ytjkiahdeaeiopaa.Walks
