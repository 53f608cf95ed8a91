/-
  PickTries: what stands behind the ones that are tried does not matter. No condition.
-/
import Derived.Test.YtjkiahdeaeiopabLFirst
import Derived.WalkKit
import Derived.ProofKit
import Derived.Handy
import Derived.LoopTactic
import Derived.Below
import Derived.Laws.BitsAllLaws
import Derived.RegionTactic
import Derived.Deep.RegionHeld3
import Derived.Deep.DrawnRows
import Derived.Deep.AppendLies
import Derived.Laws.OwnMore
import Derived.Deep.Onto
import Derived.Deep.QuietTactic
import Derived.BigQuiet
namespace Go.Proofs.Ytjkiahdeaeiopab.Walks
open Go.RowKit
set_option linter.unusedVariables false
set_option linter.unusedSimpArgs false
attribute [local go_sem ↓] Go.wp_at_zero Go.wp_at_succ

/-- How many of a walk take something. -/
def cntT (l : List Ld) (ws : List Int) : Nat := ws.countP fun b => (find (mineB b) l).isSome

theorem cnt_snoc (l : List Ld) (ws : List Int) (b : Int) : cntT l (ws ++ [b]) = cntT l ws + if (find (mineB b) l).isSome then 1 else 0 := by
  unfold cntT
  rw [List.countP_append, List.countP_singleton]

theorem cnt_len (l : List Ld) (ws : List Int) : cntT l ws ≤ ws.length := List.countP_le_length

theorem along_head {l : List Ld} {m : List Int} : ∀ {ws : List Int} {K t : Nat}, t ≤ cntT l (ws.take K) → alongV l m ws t = alongV l m (ws.take K) t
  | ws, 0, t, h => by
    obtain rfl : t = 0 := by simpa [cntT] using h
    rw [along_zero, along_zero]
  | [], K + 1, t, _ => rfl
  | b :: ws, K + 1, t, h => by
    rw [List.take_succ_cons] at h ⊢
    unfold cntT at h
    rw [List.countP_cons] at h
    unfold alongV
    cases hf : find (mineB b) l with
    | none =>
      rw [hf] at h
      exact along_head (by unfold cntT; simpa using h)
    | some i =>
      rw [hf] at h
      simp only
      cases t with
      | zero => rfl
      | succ t =>
        have hne : ¬ (t + 1 = 0) := by omega
        rw [if_neg hne, if_neg hne]
        by_cases hr : roomB l m i = true
        · rw [if_pos hr, if_pos hr]
        · rw [if_neg hr, if_neg hr]
          exact along_head (by unfold cntT; simp only [Option.isSome_some, if_true] at h; show t + 1 - 1 ≤ _; omega)

theorem tries_out {L : List Ld} {a b f t : Int} {ws : List Int} {K : Nat} (hok : LOk L) (hf : Fac a b f) (ht : 0 ≤ t ∧ t ≤ 12) (hw : ws.length ≤ 12) (hfl : flw L ≤ f) (hK : t.toNat ≤ cntT L (ws.take K) ∨ ws.length ≤ K) :
    pickOut (ws.take K) L a b f t = pickOut ws L a b f t ∧ (0 < tot L → (pickOut ws L a b f t).2 = 0) ∧ (¬ 0 < tot L → (pickOut ws L a b f t).2 = 11) := by
  have hw2 : (ws.take K).length ≤ 12 := by rw [List.length_take]; omega
  have hal : alongV L (capsL a b f L) (ws.take K) t.toNat = alongV L (capsL a b f L) ws t.toNat := by
    rcases hK with h | h
    · exact (along_head h).symm
    · rw [List.take_of_length_le h]
  refine ⟨?_, fun h0 => ?_, fun h0 => ?_⟩
  · rw [pickOut_is hok hf ht hw2, pickOut_is hok hf ht hw]
    unfold chosen
    rw [hal]
  · obtain ⟨i, hi, hc, _⟩ := chosen_some hok hf h0 hfl ws t.toNat
    rw [pickOut_is hok hf ht hw, if_pos h0, hc]
    rfl
  · rw [pickOut_is hok hf ht hw, if_neg h0]

theorem tries_round {L : List Ld} (hok : LOk L) {ws : List Int} {k : Nat} (hk : k < ws.length) :
    ((loadV L ws[k]).1 < 0 ∧ cntT L (ws.take (k + 1)) = cntT L (ws.take k)) ∨ (0 ≤ (loadV L ws[k]).1 ∧ (loadV L ws[k]).2.1 = 0 ∧ cntT L (ws.take (k + 1)) = cntT L (ws.take k)) ∨ (0 ≤ (loadV L ws[k]).1 ∧ 0 < (loadV L ws[k]).2.1 ∧ cntT L (ws.take (k + 1)) = cntT L (ws.take k) + 1) := by
  rw [List.take_succ_eq_append_getElem hk, cnt_snoc]
  generalize ws[k] = x
  rcases mine_find hok x with ⟨h1, h2⟩ | ⟨h1, h2, h3⟩ | ⟨i, hi, h1, h2, h3, h4, h5⟩
  · exact .inl ⟨h1, by rw [h2]; rfl⟩
  · exact .inr (.inl ⟨h1, h2, by rw [h3]; rfl⟩)
  · exact .inr (.inr ⟨by rw [h1, h2]; exact h3, by rw [h1]; exact h4, by rw [h5]; rfl⟩)

set_option maxHeartbeats 8000000 in
set_option maxRecDepth 100000 in
theorem tries_law (w : World) (u : Value) (rw_ : List Int) (hu : IntsAt w u rw_) (hwu : ∀ n ∈ rw_, (Lit.int .i64 n).wf = true) (hn : rw_.length ≤ 17592186044416) (v : Value) (raw : List Tm) (hv : TmAt w v raw) (hwf : ∀ t ∈ raw, (Lit.int .i64 t.1).wf = true ∧ (Lit.int .i64 t.2).wf = true) (hlen : raw.length ≤ 140737488351232 / 16) (c : Int) (x2 : (Lit.int .i64 c).wf = true) :
    Calls Try.prog 3 #[u, v, .int .i64 c] w fun r w' => r = .returned (.bool true) ∧ Below w.heap.size w w' := by
  obtain ⟨pv, cv, rfl, _, _, _⟩ := hv.parts
  obtain ⟨pu, cu, rfl, _, _, _⟩ := hu.parts
  obtain ⟨t, ht, p2⟩ := picked_some c 13 x2 (by omega) (by omega)
  have hok := partsL_ok raw
  obtain ⟨s1, s2, s3⟩ := said_flows raw 0
  have hP := parts_any _ raw w hv hwf
  obtain ⟨L, hL⟩ : ∃ L, L = partsL raw := ⟨_, rfl⟩
  obtain ⟨F, hF⟩ : ∃ F, F = min (flw L) 40 := ⟨_, rfl⟩
  rw [← hL] at hok hP s1 s2 s3
  rw [← hF] at hP s3
  have hFb : 0 ≤ F ∧ F ≤ 40 := by omega
  have hl12 := hok.1
  have hall := okFrom_all hok.2
  have htb := tot_bd L hall
  have fF : Fac 3 2 F := ⟨⟨by omega, by omega, by omega⟩, by omega, by omega⟩
  have hpk := fun ws K (hw : ws.length ≤ 12) hK => tries_out (ws := ws) (K := K) (t := (t : Int)) hok fF (by omega) hw (by omega) hK
  have hrd := fun ws k (hk : k < ws.length) => tries_round (ws := ws) (k := k) hok hk
  have P : Hid (_ ∧ _ ∧ _ ∧ _) := ⟨p2, hP, hu, hwu⟩
  have Q : Hid (_ ∧ _) := ⟨hpk, hrd⟩
  clear p2 hP hu hwu hpk hrd hok hL hF hv hwf x2 hlen hn s1 s2 s3 fF hall
  obtain ⟨T, hT⟩ : ∃ T, T = tot L := ⟨_, rfl⟩
  rw [← hT] at P Q htb
  clear hT
  go_enter Try.func3, Try.ntmps3
  go_wp2_with fail
  refine P.out.2.1.mono ?_
  rintro r w1 ⟨pL, cL, rfl, ho1, hb1⟩
  have hLd : LdAt w1 (.slice pL L.length cL) L := rowAt_own ho1
  have H1 : Hid (_ ∧ _ ∧ _) := ⟨hLd, P.out.2.2.1.below hb1, hb1⟩
  clear ho1 hb1 hLd
  go_wp2_with fail
  refine (walkOf_any _ rw_ _ H1.out.2.1 P.out.2.2.2).mono ?_
  rintro r w2 ⟨ws, pw, cw, rfl, hws, ho2, hb2⟩
  have hw12 := walk_len hws
  have hIw := own_ints ho2
  obtain ⟨_, _, q0, _, _, pW⟩ := hIw.parts
  obtain ⟨rfl, rfl⟩ := (by injection q0 with q0 _ q1; exact ⟨q0, q1⟩ : pw = _ ∧ cw = _)
  have H2 : Hid (LdAt w2 (.slice pL L.length cL) L ∧ IntsAt w2 (.slice pw ws.length cw) ws ∧ Below w.heap.size w w2 ∧ _) := ⟨H1.out.1.below hb2, hIw, H1.out.2.2.trans (hb2.mono H1.out.2.2.size), pW⟩
  clear ho2 hb2 hws H1 hIw q0 pW
  go_wp2_with fail
  refine (P.out.1 _).mono ?_
  rintro r w2 ⟨rfl, rfl⟩
  go_wp2
  go_loopw [12, 13, 14] (fun h s i wr => ∃ (k : Nat) (p : Option Addr) (c : Nat), i = .int .i64 k ∧ s = .int .i64 ((cntT L (ws.take k) : Nat) : Int) ∧ h = .slice p k c ∧ k ≤ ws.length ∧ cntT L (ws.take k) ≤ t ∧ wr.ownsRow w2.heap.size 3 1 (.slice p k c) k (icells (ws.take k)) ∧ Below w2.heap.size w2 wr) (fun _ _ i _ => ws.length - (intOf i).toNat)
  case atStart => exact ⟨0, none, 0, rfl, rfl, rfl, Nat.zero_le _, Nat.zero_le _, World.ownsRow_nil _ _ _ _, Below.refl _ _⟩
  case round =>
    obtain ⟨k, p, c', rfl, rfl, rfl, hk, hcn, ho, hb⟩ := hrel
    obtain ⟨n, hn⟩ : ∃ n, n = cntT L (ws.take k) := ⟨_, rfl⟩
    rw [← hn] at hcn ⊢
    by_cases hlt : k < ws.length ∧ n < t
    · obtain ⟨hlt, hnt⟩ := hlt
      obtain ⟨b1, o1, rfl, hb1, c0⟩ := H2.out.2.2.2 k hlt
      have hkI : (k : Int) < (ws.length : Int) := by omega
      have hnI : (n : Int) < (t : Int) := by omega
      have hrd := Q.out.2 ws k hlt
      rw [← hn] at hrd
      have htk := List.take_succ_eq_append_getElem hlt
      obtain ⟨x, hx⟩ : ∃ x, x = ws[k] := ⟨_, rfl⟩
      rw [← hx] at c0 hrd htk
      have c1 := (hb.cell (p := ⟨b1, o1 + k, none⟩) hb1).trans c0
      have hbl : b1 < wr.heap.size := Nat.lt_of_lt_of_le hb1 hb.size
      obtain ⟨q, d, w', hr, z0, z1⟩ := append_oneI ho hb.size (by omega) 22 x
      rw [← htk] at z0
      have hbw := hb.trans z1
      have c2 := (hbw.cell (p := ⟨b1, o1 + k, none⟩) hb1).trans c0
      have hbl2 : b1 < w'.heap.size := Nat.lt_of_lt_of_le hb1 hbw.size
      obtain ⟨⟨y1, y2, y3⟩, hz⟩ : ∃ z, z = loadV L x := ⟨_, rfl⟩
      rw [← hz] at hrd
      simp only at hrd
      have HR : Hid (_ ∧ _ ∧ _ ∧ _) := ⟨hr, z0, hbw, hz⟩
      clear hr z0 z1 hbw hz ho hb hx htk c0 hb1 hn
      go_wp2_with (at_builtin; (with_reducible refine wpList_append_eq rfl _ _ 22 rfl (.slice p k c') (.slice (some ⟨wr.heap.size, 0, none⟩) 1 1) (.slice q (k + 1) d) w' ?hs ?hx ?hr ?_); (case hs => rfl); (case hx => rfl); (case hr => exact HR.out.1))
      refine (loadOf_any _ L _ _ (H2.out.1.below HR.out.2.2.1)).mono ?_
      rw [← HR.out.2.2.2]
      rintro r w4 ⟨rfl, hb4⟩
      have hB4 := HR.out.2.2.1.trans (hb4.mono HR.out.2.2.1.size)
      have H4 : Hid (_ ∧ _) := ⟨(own_below HR.out.2.1 hb4).alloc (.cells #[.int .i64 y1, .int .i64 y2, .int .i64 y3] 30), hB4.alloc hB4.size (.cells #[.int .i64 y1, .int .i64 y2, .int .i64 y3] 30)⟩
      clear hb4 hB4 c1 c2 hbl hbl2
      rcases hrd with ⟨h1, h2⟩ | ⟨h1, h2, h3⟩ | ⟨h1, h2, h3⟩
      · have HC : Hid _ := h2
        have h1' : decide (0 ≤ y1) = false := decide_eq_false (by omega)
        clear h2 h1
        go_wp2
        go_roundw
        case rel => exact ⟨k + 1, q, d, by simp, by rw [HC.out], rfl, hlt, by rw [HC.out]; exact hcn, H4.out.1, H4.out.2⟩
        case measure => simp [intOf]; omega
      · have HC : Hid _ := h3
        have h1' : decide (0 ≤ y1) = true := decide_eq_true h1
        clear h3 h1
        subst h2
        go_wp2
        go_roundw
        case rel => exact ⟨k + 1, q, d, by simp, by rw [HC.out], rfl, hlt, by rw [HC.out]; exact hcn, H4.out.1, H4.out.2⟩
        case measure => simp [intOf]; omega
      · have HC : Hid _ := h3
        have h1' : decide (0 ≤ y1) = true := decide_eq_true h1
        have h2' : decide (0 < y2) = true := decide_eq_true h2
        clear h3 h1 h2
        go_wp2
        go_roundw
        case rel => exact ⟨k + 1, q, d, by simp, by rw [HC.out]; simp, rfl, hlt, by rw [HC.out]; omega, H4.out.1, H4.out.2⟩
        case measure => simp [intOf]; omega
    · have hK : (t : Int).toNat ≤ cntT L (ws.take k) ∨ ws.length ≤ k := by rw [← hn, Int.toNat_natCast]; omega
      obtain ⟨o1, o2, o3⟩ := Q.out.1 ws k hw12 hK
      have hlk : (ws.take k).length = k := by rw [List.length_take]; omega
      have hIh : IntsAt wr (.slice p k c') (ws.take k) := by
        have h := own_ints (w := wr) (base := w2.heap.size) (v := .slice p k c') (l := ws.take k) (by rw [hlk]; exact ho)
        exact h
      obtain ⟨e1, he1⟩ : ∃ e1, e1 = (pickOut ws L 3 2 F t).1 := ⟨_, rfl⟩
      obtain ⟨e2, he2⟩ : ∃ e2, e2 = (pickOut ws L 3 2 F t).2 := ⟨_, rfl⟩
      rw [← he2] at o2 o3
      have HE : Hid (_ ∧ _ ∧ _) := ⟨he1, he2, o1⟩
      have H3 : Hid (LdAt wr (.slice pL L.length cL) L ∧ IntsAt wr (.slice pw ws.length cw) ws ∧ IntsAt wr (.slice p k c') (ws.take k) ∧ Below w.heap.size w wr) := ⟨H2.out.1.below hb, H2.out.2.1.below hb, hIh, H2.out.2.2.1.trans (hb.mono H2.out.2.2.1.size)⟩
      clear hK o1 hlk hIh he1 he2 ho hb hn
      have ho2 : (0 < T ∧ e2 = 0) ∨ (T = 0 ∧ e2 = 11) := by
        by_cases h : 0 < T
        · exact .inl ⟨h, o2 h⟩
        · exact .inr ⟨by omega, o3 (by omega)⟩
      clear o2 o3
      rcases (by omega : (k : Int) < (ws.length : Int) ∧ ¬ (n : Int) < (t : Int) ∨ ¬ (k : Int) < (ws.length : Int)) with ⟨g1, g2⟩ | g1
      all_goals
        clear hlt
        go_wp2_with fail
        refine (pick_any _ _ ws L _ _ _ _ _ H3.out.2.1 H3.out.1).mono ?_
        rw [← HE.out.1, ← HE.out.2.1]
        rintro r w5 ⟨rfl, hb5⟩
        have H5 : Hid (LdAt w5 (.slice pL L.length cL) L ∧ IntsAt w5 (.slice p k c') (ws.take k) ∧ Below w.heap.size w w5) := ⟨H3.out.1.below hb5, H3.out.2.2.1.below hb5, H3.out.2.2.2.trans (hb5.mono H3.out.2.2.2.size)⟩
        clear hb5
        go_wp2_with fail
        refine (pick_any _ _ (ws.take k) L _ _ _ _ _ H5.out.2.1 H5.out.1).mono ?_
        rw [HE.out.2.2, ← HE.out.1, ← HE.out.2.1]
        rintro r w6 ⟨rfl, hb6⟩
        have H6 : Hid (Below w.heap.size w w6) := H5.out.2.2.trans (hb6.mono H5.out.2.2.size)
        clear hb6
        rcases ho2 with ⟨hT, rfl⟩ | ⟨rfl, rfl⟩
        · have hTd : decide (0 < T) = true := decide_eq_true hT
          clear hT
          go_wp2
          go_ret
          exact ⟨rfl, H6.out⟩
        · go_wp2
          go_ret
          exact ⟨rfl, H6.out⟩
end Go.Proofs.Ytjkiahdeaeiopab.Walks
