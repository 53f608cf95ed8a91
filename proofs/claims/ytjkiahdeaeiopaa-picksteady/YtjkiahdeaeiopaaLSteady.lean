/-
  PickSteady: a backend that takes nothing changes nothing. No condition.
-/
import Derived.Test.YtjkiahdeaeiopaaSteadyP
import Derived.WalkKit
import Derived.ProofKit
import Derived.Handy
import Derived.LoopTactic
import Derived.Below
import Derived.Laws.BitsAllLaws
import Derived.RegionTactic
import Derived.Deep.RegionHeld3
import Derived.Deep.DrawnRows
import Derived.Deep.AppendLies
import Derived.Laws.OwnMore
import Derived.Deep.Onto
import Derived.Deep.QuietTactic
import Derived.BigQuiet
namespace Go.Proofs.Ytjkiahdeaeiopaa.Walks
open Go.RowKit
set_option linter.unusedVariables false
set_option linter.unusedSimpArgs false
attribute [local go_sem ↓] Go.wp_at_zero Go.wp_at_succ

theorem any_next {l : List Ld} {k : Nat} {x : Ld} (hlt : k < l.length) (hx : x = l[k]) : (l.take (k + 1)).any takesB = ((l.take k).any takesB || takesB x) := by
  rw [List.take_succ_eq_append_getElem hlt, hx, List.any_append]
  simp only [List.any_cons, List.any_nil, Bool.or_false]

theorem takes_gt {x : Ld} (h : LdOk x) : takesB x = decide (0 < x.2.1) := by
  unfold takesB
  have := h.1.1
  by_cases h0 : x.2.1 = 0
  · simp [h0]
  · have : 0 < x.2.1 := by omega
    simp [h0, this]

theorem own_ld {w : World} {base : Nat} {T : TypeId} {v : Value} {n : Nat} {l : List Ld} (h : w.ownsRow base T 3 v n (lcells l)) (hn : n = l.length) : LdAt w v l := by
  subst hn
  exact rowAt_own h

set_option maxHeartbeats 16000000 in
set_option maxRecDepth 100000 in
theorem steady_law (w : World) (u : Value) (rw_ : List Int) (hu : IntsAt w u rw_) (hwu : ∀ n ∈ rw_, (Lit.int .i64 n).wf = true) (hn : rw_.length ≤ 17592186044416) (v : Value) (raw : List Tm) (hv : TmAt w v raw) (hwf : ∀ t ∈ raw, (Lit.int .i64 t.1).wf = true ∧ (Lit.int .i64 t.2).wf = true) (hlen : raw.length ≤ 140737488351232 / 16) (c : Int) (x2 : (Lit.int .i64 c).wf = true) (d : Int) (x3 : (Lit.int .i64 d).wf = true) :
    Calls Try.prog 7 #[u, v, .int .i64 c, .int .i64 d] w fun r w' => r = .returned (.bool true) ∧ Below w.heap.size w w' := by
  obtain ⟨pv, cv, rfl, _, _, _⟩ := hv.parts
  obtain ⟨pu, cu, rfl, _, _, _⟩ := hu.parts
  obtain ⟨t, ht, p2⟩ := picked_some c 13 x2 (by omega) (by omega)
  have p3 := fun (n : Nat) (h : n ≤ 12) => picked_some d (n + 1) x3 (by omega) (by omega)
  have hok := partsL_ok raw
  obtain ⟨s1, s2, s3⟩ := said_flows raw 0
  obtain ⟨u1, u2, u3, u4⟩ := cut_parts raw
  have hP := parts_any _ raw w hv hwf
  obtain ⟨L, hL⟩ : ∃ L, L = partsL raw := ⟨_, rfl⟩
  obtain ⟨F, hF⟩ : ∃ F, F = min (flw L) 40 := ⟨_, rfl⟩
  rw [← hL] at hok hP s1 s2 s3 u1 u2 u3 u4
  rw [← hF] at hP s3
  have hFb : 0 ≤ F ∧ F ≤ 40 := by omega
  have hl12 := hok.1
  have fF : Fac 3 2 F := ⟨⟨by omega, by omega, by omega⟩, by omega, by omega⟩
  have hpk := fun ws ms (hw : ws.length ≤ 12) (hm : ms.length ≤ 12) (hms : wo ms 11 = ws) => steady_out (ws := ws) (ms := ms) (t := (t : Int)) u1 u2 u3 fF (by omega) hw hm hms (by omega)
  have hcut : ∀ (W : World) (a : Option Addr) (n c : Nat), LdAt W (.slice a n c) L → LdAt W (.slice a (L.take 11).length c) (L.take 11) := fun W a n c h => by
    have h1 := h.cut (min 11 L.length) (by omega)
    have e : L.take (min 11 L.length) = L.take 11 := by
      rcases Nat.le_total 11 L.length with h2 | h2
      · rw [Nat.min_eq_left h2]
      · rw [Nat.min_eq_right h2, List.take_length, List.take_of_length_le h2]
    rw [e] at h1
    rw [List.length_take]
    exact h1
  have hlen' : (L.take 11).length = min 11 L.length := List.length_take
  have hall := okFrom_all u1.2
  have hany := any_iff hall
  obtain ⟨M, hM⟩ : ∃ M, M = L.take 11 := ⟨_, rfl⟩
  rw [← hM] at hpk hcut hlen' hall hany u3
  obtain ⟨n0, hn0⟩ : ∃ n0, n0 = L.length := ⟨_, rfl⟩
  obtain ⟨nM, hnM⟩ : ∃ nM, nM = M.length := ⟨_, rfl⟩
  rw [← hn0] at hP hl12 hlen'
  rw [← hnM] at hlen' u3 hcut
  obtain ⟨T, hT⟩ : ∃ T, T = tot L := ⟨_, rfl⟩
  rw [← hT] at hP
  obtain ⟨T', hT'⟩ : ∃ T', T' = tot M := ⟨_, rfl⟩
  rw [← hT'] at hpk hany
  have hcut2 : ∀ (W : World) (B : Nat) (a : Option Addr) (c : Nat), W.ownsRow B 37 3 (.slice a n0 c) n0 (lcells L) → LdAt W (.slice a nM c) M ∧ n0 ≤ c ∧ c ≤ 9223372036854775807 := fun W B a c h => by
    rw [hn0] at h
    have h1 : LdAt W (.slice a L.length c) L := rowAt_own h
    obtain ⟨_, _, q0, q1, q2, _⟩ := h1.parts
    injection q0 with _ _ q3
    subst q3
    unfold maxLen at q2
    exact ⟨hcut W a _ c h1, by omega, by omega⟩
  have P : Hid (_ ∧ _ ∧ _ ∧ _ ∧ _) := ⟨p2, hP, hu, hwu, p3⟩
  have Q : Hid (_ ∧ _ ∧ _ ∧ _ ∧ _) := ⟨hpk, hcut2, hall, hany, hnM⟩
  clear p2 hP hu hwu p3 hpk hcut hcut2 hall hany hok hL hF hv hwf x2 x3 hlen hn s1 s2 s3 fF u1 u2 u4 hM hn0 hT hT' hnM
  rcases (by omega : n0 = 12 ∧ nM = 11 ∨ n0 ≤ 11 ∧ nM = n0) with ⟨rfl, rfl⟩ | ⟨h11, rfl⟩
  case' inr => have hne : ((nM : Int) == 12) = false := by rw [beq_eq_false_iff_ne]; omega
  all_goals
    clear hlen'
    go_enter Try.func7, Try.ntmps7
    go_wp2_with fail
    refine P.out.2.1.mono ?_
    rintro r w1 ⟨pL, cL, rfl, ho1, hb1⟩
    obtain ⟨hLd, hc1, hc2⟩ := Q.out.2.1 _ _ _ _ ho1
    have H1 : Hid (_ ∧ _ ∧ _) := ⟨hLd, P.out.2.2.1.below hb1, hb1⟩
    clear ho1 hb1 hLd
    go_wp2_with fail
    refine (walkOf_any _ rw_ _ H1.out.2.1 P.out.2.2.2.1).mono ?_
    rintro r w2 ⟨ws0, pw, cw, rfl, hws, ho2, hb2⟩
    have H2 : Hid (LdAt w2 (.slice pL _ cL) M ∧ IntsAt w2 (.slice pw ws0.length cw) ws0 ∧ Below w.heap.size w w2 ∧ WalkOk ws0) := ⟨H1.out.1.below hb2, own_ints ho2, H1.out.2.2.trans (hb2.mono H1.out.2.2.size), hws⟩
    have hw0 := walk_len hws
    clear ho2 hb2 hws H1
    go_wp2_with fail
    refine (without_any _ ws0 11 _ H2.out.2.1 (by omega)).mono ?_
    rintro r w3 ⟨p3, c3, rfl, ho3, hb3⟩
    have hwx : (wo ws0 11).length ≤ 11 ∧ (11 : Int) ∉ wo ws0 11 := ⟨pigeons 11 _ (wo_nodup H2.out.2.2.2.1) fun x hx => by
      obtain ⟨h1, h2⟩ := mem_wo.1 hx
      have := H2.out.2.2.2.2 x h1
      omega, fun h => (mem_wo.1 h).2 rfl⟩
    obtain ⟨ws, hws⟩ : ∃ ws, ws = wo ws0 11 := ⟨_, rfl⟩
    rw [← hws] at ho3 hwx ⊢
    obtain ⟨hw11, hnot⟩ := hwx
    have H3 : Hid (LdAt w3 (.slice pL _ cL) M ∧ IntsAt w3 (.slice p3 ws.length c3) ws ∧ Below w.heap.size w w3 ∧ (11 : Int) ∉ ws) := ⟨H2.out.1.below hb3, own_ints ho3, H2.out.2.2.1.trans (hb3.mono H2.out.2.2.1.size), hnot⟩
    clear ho3 hb3 hws H2 hnot hw0
    go_wp2_with fail
    refine (P.out.1 _).mono ?_
    rintro r w3 ⟨rfl, rfl⟩
    go_wp2_with fail
    refine (pick_any _ _ ws M _ _ _ _ _ H3.out.2.1 H3.out.1).mono ?_
    obtain ⟨e1, he1⟩ : ∃ e1, e1 = (pickOut ws M 3 2 F t).1 := ⟨_, rfl⟩
    obtain ⟨e2, he2⟩ : ∃ e2, e2 = (pickOut ws M 3 2 F t).2 := ⟨_, rfl⟩
    rw [← he1, ← he2]
    have HE : Hid (_ ∧ _) := ⟨he1, he2⟩
    clear he1 he2
    rintro r w4 ⟨rfl, hb4⟩
    obtain ⟨k, hk, hpk⟩ := P.out.2.2.2.2 ws.length (by omega)
    rw [show ((ws.length + 1 : Nat) : Int) = (ws.length : Int) + 1 by omega] at hpk
    have hIw := H3.out.2.1.below hb4
    obtain ⟨_, _, q0, _, _, pW⟩ := hIw.parts
    obtain ⟨rfl, rfl⟩ := (by injection q0 with q0 _ q1; exact ⟨q0, q1⟩ : p3 = _ ∧ c3 = _)
    have H4 : Hid (LdAt w4 (.slice pL _ cL) M ∧ _ ∧ Below w.heap.size w w4 ∧ _) := ⟨H3.out.1.below hb4, pW, H3.out.2.2.1.trans (hb4.mono H3.out.2.2.1.size), hpk⟩
    clear hb4 hIw q0 pW hpk
    go_wp2_with fail
    refine (H4.out.2.2.2 _).mono ?_
    rintro r w4 ⟨rfl, rfl⟩
    go_wp2
    go_loopw [18, 19] (fun h i wr => ∃ (j : Nat) (p : Option Addr) (c : Nat), i = .int .i64 j ∧ h = .slice p (mTo ws k j).length c ∧ j ≤ ws.length + 1 ∧ wr.ownsRow w4.heap.size 3 1 (.slice p (mTo ws k j).length c) (mTo ws k j).length (icells (mTo ws k j)) ∧ Below w4.heap.size w4 wr) (fun _ i _ => ws.length + 1 - (intOf i).toNat)
    case atStart => exact ⟨0, none, 0, rfl, rfl, Nat.zero_le _, World.ownsRow_nil _ _ _ _, Below.refl _ _⟩
    case round =>
      obtain ⟨j, p, c', rfl, rfl, hj, ho, hb⟩ := hrel
      have hml := mTo_len ws k j
      have hms : mTo ws k (j + 1) = (if j = k then mTo ws k j ++ [11] else mTo ws k j) ++ (if j < ws.length then [ws.getD j 0] else []) := rfl
      have hm13 : (mTo ws k j).length ≤ 20 := by rw [hml]; split <;> omega
      obtain ⟨m, hm⟩ : ∃ m, m = mTo ws k j := ⟨_, rfl⟩
      rw [← hm] at ho hms hm13 ⊢
      obtain ⟨m', hm'⟩ : ∃ m', m' = mTo ws k (j + 1) := ⟨_, rfl⟩
      rw [← hm'] at hms
      clear hml
      by_cases hlt : j ≤ ws.length
      · have hjI : (j : Int) ≤ (ws.length : Int) := by omega
        by_cases hjk : j = k
        · rw [if_pos hjk] at hms
          have hjkI : ((j : Int) == (k : Int)) = true := by rw [hjk]; simp
          obtain ⟨q, d', w', hr, z0, z1⟩ := append_oneI ho hb.size (by omega) 22 11
          have z0' : w'.ownsRow w4.heap.size 3 1 (.slice q (m.length + 1) d') (m ++ [(11 : Int)]).length (icells (m ++ [11])) := by rw [List.length_append]; exact z0
          have hbw := hb.trans z1
          by_cases hjn : j < ws.length
          · rw [if_pos hjn] at hms
            have hjnI : (j : Int) < (ws.length : Int) := by omega
            obtain ⟨b1, o1, rfl, hb1, c0⟩ := H4.out.2.1 j hjn
            have c1 := (hbw.cell (p := ⟨b1, o1 + j, none⟩) hb1).trans c0
            have hbl : b1 < w'.heap.size := Nat.lt_of_lt_of_le hb1 hbw.size
            have hge : ws.getD j 0 = ws[j] := by simp [hjn]
            rw [hge] at hms
            obtain ⟨x, hx⟩ : ∃ x, x = ws[j] := ⟨_, rfl⟩
            rw [← hx] at hms c1
            obtain ⟨q2, d2, w2', hr2, y0, y1⟩ := append_oneI z0 hbw.size (by omega) 22 x
            have HR : Hid (_ ∧ _ ∧ _ ∧ _ ∧ _) := ⟨hr, hr2, y0, hbw.trans y1, hms⟩
            have HM : Hid _ := hm'
            have hsz : 0 ≤ w'.heap.size := Nat.zero_le _
            clear hr hr2 y0 y1 z0 z0' z1 hbw hms hm' hm ho hb c0 hb1 hge hx
            subst hjk
            go_wp2_with (at_builtin; first | ((with_reducible refine wpList_append_eq rfl _ _ 22 rfl (.slice p m.length c') (.slice (some ⟨wr.heap.size, 0, none⟩) 1 1) (.slice q (m.length + 1) d') w' ?hs ?hx ?hr ?_); (case hs => rfl); (case hx => rfl); (case hr => exact HR.out.1)) | ((with_reducible refine wpList_append_eq rfl _ _ 22 rfl (.slice q (m.length + 1) d') (.slice (some ⟨w'.heap.size, 0, none⟩) 1 1) (.slice q2 (m.length + 1 + 1) d2) w2' ?hs ?hx ?hr ?_); (case hs => rfl); (case hx => rfl); (case hr => exact HR.out.2.1)))
            go_roundw
            case rel =>
              have e : (mTo ws j (j + 1)).length = m.length + 1 + 1 := by rw [← HM.out, HR.out.2.2.2.2]; simp
              refine ⟨j + 1, q2, d2, by simp, by rw [e], by omega, ?_, HR.out.2.2.2.1⟩
              rw [e, ← HM.out, HR.out.2.2.2.2]
              exact HR.out.2.2.1
            case measure => simp [intOf]; omega
          · rw [if_neg hjn, List.append_nil] at hms
            have hjnI : ¬ (j : Int) < (ws.length : Int) := by omega
            have HR : Hid (_ ∧ _ ∧ _ ∧ _) := ⟨hr, z0, hbw, hms⟩
            have HM : Hid _ := hm'
            clear hr z0 z0' z1 hbw hms hm' hm ho hb
            subst hjk
            go_wp2_with (at_builtin; (with_reducible refine wpList_append_eq rfl _ _ 22 rfl (.slice p m.length c') (.slice (some ⟨wr.heap.size, 0, none⟩) 1 1) (.slice q (m.length + 1) d') w' ?hs ?hx ?hr ?_); (case hs => rfl); (case hx => rfl); (case hr => exact HR.out.1))
            go_roundw
            case rel =>
              have e : (mTo ws j (j + 1)).length = m.length + 1 := by rw [← HM.out, HR.out.2.2.2]; simp
              refine ⟨j + 1, q, d', by simp, by rw [e], by omega, ?_, HR.out.2.2.1⟩
              rw [e, ← HM.out, HR.out.2.2.2]
              exact HR.out.2.1
            case measure => simp [intOf]; omega
        · rw [if_neg hjk] at hms
          have hjkI : ((j : Int) == (k : Int)) = false := by rw [beq_eq_false_iff_ne]; omega
          by_cases hjn : j < ws.length
          · rw [if_pos hjn] at hms
            have hjnI : (j : Int) < (ws.length : Int) := by omega
            obtain ⟨b1, o1, rfl, hb1, c0⟩ := H4.out.2.1 j hjn
            have c1 := (hb.cell (p := ⟨b1, o1 + j, none⟩) hb1).trans c0
            have hbl : b1 < wr.heap.size := Nat.lt_of_lt_of_le hb1 hb.size
            have hge : ws.getD j 0 = ws[j] := by simp [hjn]
            rw [hge] at hms
            obtain ⟨x, hx⟩ : ∃ x, x = ws[j] := ⟨_, rfl⟩
            rw [← hx] at hms c1
            obtain ⟨q, d', w', hr, z0, z1⟩ := append_oneI ho hb.size (by omega) 22 x
            have HR : Hid (_ ∧ _ ∧ _ ∧ _) := ⟨hr, z0, hb.trans z1, hms⟩
            have HM : Hid _ := hm'
            clear hr z0 z1 hms hm' hm ho hb c0 hb1 hge hx
            go_wp2_with (at_builtin; (with_reducible refine wpList_append_eq rfl _ _ 22 rfl (.slice p m.length c') (.slice (some ⟨wr.heap.size, 0, none⟩) 1 1) (.slice q (m.length + 1) d') w' ?hs ?hx ?hr ?_); (case hs => rfl); (case hx => rfl); (case hr => exact HR.out.1))
            go_roundw
            case rel =>
              have e : (mTo ws k (j + 1)).length = m.length + 1 := by rw [← HM.out, HR.out.2.2.2]; simp
              refine ⟨j + 1, q, d', by simp, by rw [e], by omega, ?_, HR.out.2.2.1⟩
              rw [e, ← HM.out, HR.out.2.2.2]
              exact HR.out.2.1
            case measure => simp [intOf]; omega
          · rw [if_neg hjn, List.append_nil] at hms
            have hjnI : ¬ (j : Int) < (ws.length : Int) := by omega
            have HR : Hid (_ ∧ _ ∧ _) := ⟨ho, hb, hms⟩
            have HM : Hid _ := hm'
            clear hms hm' hm ho hb
            go_wp2
            go_roundw
            case rel =>
              have e : (mTo ws k (j + 1)).length = m.length := by rw [← HM.out, HR.out.2.2]
              refine ⟨j + 1, p, c', by simp, by rw [e], by omega, ?_, HR.out.2.1⟩
              rw [e, ← HM.out, HR.out.2.2]
              exact HR.out.1
            case measure => simp [intOf]; omega
      · obtain rfl : j = ws.length + 1 := by omega
        have hnl : ¬ (((ws.length + 1 : Nat) : Int) ≤ (ws.length : Int)) := by omega
        clear hms hm'
        have hwo := mTo_wo H3.out.2.2.2 k (ws.length + 1)
        rw [← hm, List.take_of_length_le (by omega)] at hwo
        have hm12 : m.length ≤ 12 := by rw [hm, mTo_len, if_pos (by omega)]; omega
        obtain ⟨o1, o2, o3⟩ := Q.out.1 ws m (by omega) hm12 hwo
        rw [← HE.out.2] at o2 o3
        have hM := H4.out.1.below hb
        have hIm := own_ints ho
        have hBw := H4.out.2.2.1.trans (hb.mono H4.out.2.2.1.size)
        have hnM := Q.out.2.2.2.2
        obtain ⟨y, wa, hr1, z0, hba⟩ := append_copyL wr 23 _ M hM (by omega)
        rw [← hnM] at z0
        obtain ⟨yp, yc, rfl⟩ := own_form z0
        obtain ⟨q, d', wb, hr2, y0, y1, _, _⟩ := append_oneL z0 hba.size (by omega) 23 11 0 3
        have hbb := hba.trans (y1.mono (Nat.le_refl _))
        have hM2 := own_ld (l := M ++ [idleX]) y0 (by rw [List.length_append, List.length_singleton, ← hnM])
        have H5 : Hid (_ ∧ _ ∧ LdAt wb (.slice q _ d') (M ++ [idleX]) ∧ IntsAt wb (.slice p m.length c') m ∧ LdAt wb (.slice pL _ cL) M ∧ Below w.heap.size w wb ∧ _) := ⟨hr1, hr2, hM2, hIm.below hbb, hM.below hbb, hBw.trans (hbb.mono hBw.size), o1⟩
        have ho2 : (decide (0 < T') = true ∧ e2 = 0) ∨ (decide (0 < T') = false ∧ e2 = 11) := by
          by_cases h : 0 < T'
          · exact .inl ⟨decide_eq_true h, o2 h⟩
          · exact .inr ⟨decide_eq_false h, o3 (by omega)⟩
        have HO : Hid _ := ho2
        clear hr1 hr2 hM2 hbb y0 y1 z0 hba hM hIm hBw o1 o2 o3 ho2 hwo hm ho hb hm12 hm13 hnM
        go_wp2_with (at_builtin; first | ((with_reducible refine wpList_append_eq rfl _ _ 23 rfl (.slice none 0 0) (.slice pL 11 cL) (.slice yp 11 yc) wa ?hs ?hx ?hr ?_); (case hs => rfl); (case hx => rfl); (case hr => exact H5.out.1)) | ((with_reducible refine wpList_append_eq rfl _ _ 23 rfl (.slice yp 11 yc) (.slice (some ⟨wa.heap.size, 0, none⟩) 1 1) (.slice q (11 + 1) d') wb ?hs ?hx ?hr ?_); (case hs => rfl); (case hx => rfl); (case hr => exact H5.out.2.1)) | ((with_reducible refine wpList_append_eq rfl _ _ 23 rfl (.slice none 0 0) (.slice pL nM cL) (.slice yp nM yc) wa ?hs ?hx ?hr ?_); (case hs => rfl); (case hx => rfl); (case hr => exact H5.out.1)) | ((with_reducible refine wpList_append_eq rfl _ _ 23 rfl (.slice yp nM yc) (.slice (some ⟨wa.heap.size, 0, none⟩) 1 1) (.slice q (nM + 1) d') wb ?hs ?hx ?hr ?_); (case hs => rfl); (case hx => rfl); (case hr => exact H5.out.2.1)))
        refine (pick_any _ _ m (M ++ [idleX]) _ _ _ _ _ H5.out.2.2.2.1 H5.out.2.2.1).mono ?_
        rw [H5.out.2.2.2.2.2.2, ← HE.out.1, ← HE.out.2]
        rintro r w5 ⟨rfl, hb5⟩
        have hM5 := H5.out.2.2.2.2.1.below hb5
        obtain ⟨aM, cM, q0, _, _, pM⟩ := hM5.parts
        have hpl : aM = pL := by injection q0 with q0 _ _; exact q0.symm
        rw [hpl] at pM
        clear hpl
        have H6 : Hid (_ ∧ Below w.heap.size w w5) := ⟨pM, H5.out.2.2.2.2.2.1.trans (hb5.mono H5.out.2.2.2.2.2.1.size)⟩
        clear hb5 hM5 q0 pM H5
        go_wp2
        go_loopw [22, 23] (fun s i wr => ∃ k : Nat, i = .int .i64 k ∧ s = .bool ((M.take k).any takesB) ∧ k ≤ M.length ∧ w5 = wr) (fun _ i _ => M.length - (intOf i).toNat)
        case atStart => exact ⟨0, rfl, rfl, Nat.zero_le _, rfl⟩
        case round =>
          obtain ⟨k2, rfl, rfl, hk2, rfl⟩ := hrel
          have hnM := Q.out.2.2.2.2
          by_cases hlt : k2 < M.length
          · obtain ⟨b1, o1, rfl, hb1, d1, d2, d3⟩ := H6.out.1 k2 hlt
            have hkI : (k2 : Int) < (M.length : Int) := by omega
            rw [← hnM] at hkI
            obtain ⟨⟨z1, z2, z3⟩, hxk⟩ : ∃ x, x = M[k2] := ⟨_, rfl⟩
            have hsn := any_next hlt hxk
            rw [takes_gt (by rw [hxk]; exact Q.out.2.2.1 M[k2] (List.getElem_mem hlt))] at hsn
            replace hsn : (M.take (k2 + 1)).any takesB = ((M.take k2).any takesB || decide (0 < z2)) := hsn
            rw [← hxk] at d2
            have HS : Hid _ := hsn
            clear hsn hxk d1 d3 hb1 hnM
            cases hs : (M.take k2).any takesB
            · have HS2 : Hid ((M.take (k2 + 1)).any takesB = decide (0 < z2)) := by rw [HS.out, hs]; rfl
              clear HS
              go_wp2
              go_roundw
              case rel => exact ⟨k2 + 1, by simp, by rw [HS2.out], hlt, by trivial⟩
              case measure => simp [intOf]; omega
            · have HS2 : Hid ((M.take (k2 + 1)).any takesB = true) := by rw [HS.out, hs]; rfl
              clear HS
              go_wp2
              go_roundw
              case rel => exact ⟨k2 + 1, by simp, by rw [HS2.out], hlt, by trivial⟩
              case measure => simp [intOf]; omega
          · obtain rfl : k2 = M.length := by omega
            rw [List.take_length, Q.out.2.2.2.1, ← hnM]
            clear hnM hlt hk2
            rcases HO.out with ⟨g1, rfl⟩ | ⟨g1, rfl⟩
            · rw [g1]
              clear g1
              go_wp2
              go_ret
              exact ⟨rfl, H6.out.2⟩
            · rw [g1]
              clear g1
              go_wp2
              go_ret
              exact ⟨rfl, H6.out.2⟩
end Go.Proofs.Ytjkiahdeaeiopaa.Walks
