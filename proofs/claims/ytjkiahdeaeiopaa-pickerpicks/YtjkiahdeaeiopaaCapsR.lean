/-
  The document's CapsOf. Condition: the loads can be read.
-/
import Derived.Test.YtjkiahdeaeiopaaCaps
import Derived.WalkKit
import Derived.ProofKit
import Derived.Handy
import Derived.LoopTactic
import Derived.Below
import Derived.Laws.BitsAllLaws
import Derived.RegionTactic
import Derived.Deep.RegionHeld3
import Derived.Deep.DrawnRows
import Derived.Deep.AppendLies
import Derived.Laws.OwnMore
import Derived.Deep.Onto
import Derived.Deep.QuietTactic
import Derived.BigQuiet
namespace Go.Proofs.Ytjkiahdeaeiopaa.Walks
open Go.RowKit
set_option linter.unusedVariables false
set_option linter.unusedSimpArgs false
attribute [local go_sem ↓] Go.wp_at_zero Go.wp_at_succ

set_option maxHeartbeats 4000000 in
set_option maxRecDepth 100000 in
theorem capsOf_any (v : Value) (l : List Ld) (a b c : Int) (w : World) (hv : LdAt w v l) :
    Calls Try.prog 27 #[v, .int .i64 a, .int .i64 b, .int .i64 c] w (CapsRes (capsOut l a b c) w) := by
  obtain ⟨p, ca, rfl, hca, hma, _⟩ := hv.parts
  have HV : Hid (_ ∧ True) := ⟨hv, trivial⟩
  clear hv
  unfold maxLen at hma
  cases hok : lokB l
  · have hout : capsOut l a b c = (6, []) := by unfold capsOut; rw [hok, if_neg Bool.false_ne_true]
    rw [hout]
    clear hout
    go_enter Try.func27, Try.ntmps27
    go_wp2_with fail
    refine (loadsMay_any _ l _ HV.out.1).mono ?_
    rw [hok]
    rintro r w1 ⟨rfl, hb1⟩
    have HB : Hid _ := hb1
    clear hb1
    go_wp2
    go_ret2
    exact ⟨_, rfl, intsAt_nil _, HB.out⟩
  cases h1 : decide (1 ≤ b ∧ b ≤ a ∧ a ≤ 20)
  · have hout : capsOut l a b c = (2, []) := by unfold capsOut; rw [if_pos hok, if_neg (fun h => of_decide_eq_false h1 h.1)]
    rw [hout]
    clear hout
    go_enter Try.func27, Try.ntmps27
    go_wp2_with fail
    refine (loadsMay_any _ l _ HV.out.1).mono ?_
    rw [hok]
    rintro r w1 ⟨rfl, hb1⟩
    have HB : Hid _ := hb1
    clear hb1
    go_wp2_with fail
    refine (factorMay_any _ _ _).mono ?_
    rw [h1]
    rintro r w2 ⟨rfl, rfl⟩
    go_wp2
    go_ret2
    exact ⟨_, rfl, intsAt_nil _, HB.out⟩
  cases h2 : decide (0 ≤ c ∧ c ≤ 40)
  · have hout : capsOut l a b c = (2, []) := by unfold capsOut; rw [if_pos hok, if_neg (fun h => of_decide_eq_false h2 h.2)]
    rw [hout]
    clear hout
    go_enter Try.func27, Try.ntmps27
    go_wp2_with fail
    refine (loadsMay_any _ l _ HV.out.1).mono ?_
    rw [hok]
    rintro r w1 ⟨rfl, hb1⟩
    have HB : Hid _ := hb1
    clear hb1
    go_wp2_with fail
    refine (factorMay_any _ _ _).mono ?_
    rw [h1]
    rintro r w2 ⟨rfl, rfl⟩
    go_wp2_with fail
    refine (in_any _ _ _ _).mono ?_
    rw [h2]
    rintro r w2 ⟨rfl, rfl⟩
    go_wp2
    go_ret2
    exact ⟨_, rfl, intsAt_nil _, HB.out⟩
  have hfac : Fac a b c := ⟨of_decide_eq_true h1, of_decide_eq_true h2⟩
  have hout : capsOut l a b c = (0, capsL a b c l) := by unfold capsOut; rw [if_pos hok, if_pos hfac]
  rw [hout]
  have hl12 := (lokB_iff.1 hok).1
  have HF : Hid (LOk l ∧ Fac a b c) := ⟨lokB_iff.1 hok, hfac⟩
  clear hout hfac
  go_enter Try.func27, Try.ntmps27
  go_wp2_with fail
  refine (loadsMay_any _ l _ HV.out.1).mono ?_
  rw [hok]
  rintro r w1 ⟨rfl, hb1⟩
  have hv1 := HV.out.1.below hb1
  obtain ⟨_, _, e0, _, _, pa⟩ := hv1.parts
  obtain ⟨rfl, rfl⟩ := (by injection e0 with e0 _ e1; exact ⟨e0, e1⟩ : p = _ ∧ ca = _)
  have HB : Hid (_ ∧ _) := ⟨hb1, pa⟩
  clear hb1 hv1 e0 pa
  go_wp2_with fail
  refine (factorMay_any _ _ _).mono ?_
  rw [h1]
  rintro r w2 ⟨rfl, rfl⟩
  go_wp2_with fail
  refine (in_any _ _ _ _).mono ?_
  rw [h2]
  rintro r w2 ⟨rfl, rfl⟩
  clear hok h1 h2
  go_wp2
  go_loopw [10, 11] (fun s i wr => ∃ (k : Nat), i = .int .i64 k ∧ s = .int .i64 (tot (l.take k)) ∧ k ≤ l.length ∧ w2 = wr) (fun _ i _ => l.length - (intOf i).toNat)
  case atStart => exact ⟨0, rfl, by simp [tot_nil], Nat.zero_le _, rfl⟩
  case round =>
    obtain ⟨k, rfl, rfl, hk, rfl⟩ := hrel
    by_cases hlt : k < l.length
    · obtain ⟨b1, o1, rfl, hb1, c1, c2, c3⟩ := HB.out.2 k hlt
      have hs : tot (l.take (k + 1)) = tot (l.take k) + l[k].2.1 := by rw [List.take_succ_eq_append_getElem hlt, tot_snoc]
      have hall := okFrom_all HF.out.1.2
      have hd := hall l[k] (List.getElem_mem hlt)
      obtain ⟨t1, t2⟩ := tot_bd (l.take k) fun x hx => hall x (List.mem_of_mem_take hx)
      have t3 : ((l.take k).length : Int) ≤ 12 := by rw [List.length_take]; omega
      obtain ⟨⟨x1, x2, x3⟩, hx⟩ : ∃ x, x = l[k] := ⟨_, rfl⟩
      rw [← hx] at c1 c2 c3 hs hd
      have hd1 : 0 ≤ x2 := hd.1.1
      have hd2 : x2 ≤ 8 := hd.1.2
      replace hs : tot (l.take (k + 1)) = tot (l.take k) + x2 := hs
      obtain ⟨s, hss⟩ : ∃ s, s = tot (l.take k) := ⟨_, rfl⟩
      rw [← hss] at hs t1 t2 ⊢
      have t4 : s ≤ 96 := by omega
      have H : Hid _ := hs
      clear hs hss hx hd hb1 t2 t3 hall
      have hkd : (k : Int) < (l.length : Int) := by omega
      go_wp2
      go_roundw
      case rel => exact ⟨k + 1, by simp, by rw [H.out], hlt, by trivial⟩
      case measure => simp [intOf]; omega
    · obtain rfl : k = l.length := by omega
      rw [List.take_length]
      obtain ⟨t, ht⟩ : ∃ t, t = tot l := ⟨_, rfl⟩
      rw [← ht]
      obtain ⟨m, hm⟩ : ∃ m, m = capsL a b c l := ⟨_, rfl⟩
      have hml : m.length = l.length := by rw [hm]; simp [capsL]
      have hmat : ∀ k (h : k < l.length), m[k]? = some (capE a b c t l[k]) := fun k h => by
        subst hm ht
        simp [capsL, h]
      have HM : Hid (_ ∧ _ ∧ _ ∧ _) := ⟨ht, hm, hml, hmat⟩
      clear ht hm hml hmat
      go_wp2
      go_loopw [12, 13] (fun out i wr => ∃ (k : Nat) (p' : Option Addr) (c' : Nat), i = .int .i64 k ∧ out = .slice p' k c' ∧ k ≤ l.length ∧ wr.ownsRow w2.heap.size 3 1 (.slice p' k c') k (icells (m.take k)) ∧ Below w2.heap.size w2 wr) (fun _ i _ => l.length - (intOf i).toNat)
      case atStart => exact ⟨0, none, 0, rfl, rfl, Nat.zero_le _, World.ownsRow_nil _ _ _ _, Below.refl _ _⟩
      case round =>
        obtain ⟨k, p', c', rfl, rfl, hk, ho, hb⟩ := hrel
        by_cases hlt : k < l.length
        · obtain ⟨b1, o1, rfl, hb1, c1, c2, c3⟩ := HB.out.2 k hlt
          replace c1 := (hb.cell (p := ⟨b1, o1 + k * 3, none⟩) hb1).trans c1
          replace c2 := (hb.cell (p := ⟨b1, o1 + k * 3 + 1, none⟩) hb1).trans c2
          replace c3 := (hb.cell (p := ⟨b1, o1 + k * 3 + 2, none⟩) hb1).trans c3
          have hmk : m[k]? = some (capE a b c t l[k]) := HM.out.2.2.2 k hlt
          have hfit : l[k].2.1 ≠ 0 → Fits a b c l[k].2.1 t := fun h0 => by rw [HM.out.1]; exact fits_of HF.out.1 HF.out.2 (List.getElem_mem hlt) h0
          have hd := okFrom_all HF.out.1.2 l[k] (List.getElem_mem hlt)
          obtain ⟨⟨x1, x2, x3⟩, hx⟩ : ∃ x, x = l[k] := ⟨_, rfl⟩
          rw [← hx] at c1 c2 c3 hmk hfit hd
          have hd1 : 0 ≤ x2 := hd.1.1
          have hbl1 : b1 < wr.heap.size := Nat.lt_of_lt_of_le hb1 hb.size
          have hkd : (k : Int) < (l.length : Int) := by omega
          have hsz := hb.size
          have H : Hid (_ ∧ _ ∧ _) := ⟨hb, hmk, hfit⟩
          clear hmk hx hb hb1 hfit hd
          by_cases h0 : 0 < x2
          · have hx0 : x2 ≠ 0 := by omega
            have hfit := H.out.2.2 hx0
            have hG : m[k]? = some (capV a b c x2 t) := by
              rw [H.out.2.1]
              unfold capE
              rw [if_neg hx0]
            clear hx0
            obtain ⟨cv, hcv⟩ : ∃ cv, cv = capV a b c x2 t := ⟨_, rfl⟩
            have hcap := fun W => capOf_ok a b c x2 t W hfit
            rw [← hcv] at hcap hG
            have hG2 : m.take (k + 1) = m.take k ++ [cv] := by
              obtain ⟨h1, rfl⟩ := List.getElem?_eq_some_iff.1 hG
              exact List.take_succ_eq_append_getElem h1
            obtain ⟨q, d, w', hr, z0, z1⟩ := append_oneI ho (by omega) (by omega) 22 cv
            rw [← hG2] at z0
            have HR : Hid (_ ∧ _ ∧ _ ∧ _) := ⟨hr, z0, z1, hcap⟩
            clear hr z0 z1 hG hG2 hcap hfit hcv ho
            go_wp2_with fail
            refine (HR.out.2.2.2 _).mono ?_
            rintro r w8 ⟨rfl, hw8⟩
            rw [hw8]
            clear hw8
            go_wp2_with (at_builtin; (with_reducible refine wpList_append_eq rfl _ _ 22 rfl (.slice p' k c') (.slice (some ⟨wr.heap.size, 0, none⟩) 1 1) (.slice q (k + 1) d) w' ?hs ?hx ?hr ?_); (case hs => rfl); (case hx => rfl); (case hr => exact HR.out.1))
            go_roundw
            case rel => exact ⟨k + 1, q, d, by simp, rfl, hlt, HR.out.2.1, H.out.1.trans HR.out.2.2.1⟩
            case measure => simp [intOf]; omega
          · obtain rfl : x2 = 0 := by omega
            have hG : m[k]? = some 0 := by
              rw [H.out.2.1]
              unfold capE
              rw [if_pos rfl]
            have hG2 : m.take (k + 1) = m.take k ++ [0] := by
              obtain ⟨h1, h2⟩ := List.getElem?_eq_some_iff.1 hG
              rw [List.take_succ_eq_append_getElem h1, h2]
            obtain ⟨q, d, w', hr, z0, z1⟩ := append_oneI ho (by omega) (by omega) 22 0
            rw [← hG2] at z0
            have HR : Hid (_ ∧ _ ∧ _) := ⟨hr, z0, z1⟩
            clear hr z0 z1 hG hG2 ho h0 hd1
            go_wp2_with (at_builtin; (with_reducible refine wpList_append_eq rfl _ _ 22 rfl (.slice p' k c') (.slice (some ⟨wr.heap.size, 0, none⟩) 1 1) (.slice q (k + 1) d) w' ?hs ?hx ?hr ?_); (case hs => rfl); (case hx => rfl); (case hr => exact HR.out.1))
            go_roundw
            case rel => exact ⟨k + 1, q, d, by simp, rfl, hlt, HR.out.2.1, H.out.1.trans HR.out.2.2⟩
            case measure => simp [intOf]; omega
        · obtain rfl : k = l.length := by omega
          have H : Hid (_ ∧ _) := ⟨ho, hb⟩
          clear ho hb
          go_wp2
          go_ret2
          refine ⟨_, rfl, ?_, HB.out.1.trans (H.out.2.mono HB.out.1.size)⟩
          have h := H.out.1
          rw [← HM.out.2.2.1, List.take_length] at h
          have h' := own_ints h
          rw [HM.out.2.2.1] at h'
          rw [← HM.out.2.1]
          exact h'
end Go.Proofs.Ytjkiahdeaeiopaa.Walks
