/-
  The document's FlowsOf, rows of handles compared, and TableOfs. Condition: the slots can be read.
-/
import Derived.Test.YthiojfgimjoenaaHandles
import Derived.Test.YthiojfgimjoenaaFault
import Derived.WalkKit
import Derived.ProofKit
import Derived.Handy
import Derived.LoopTactic
import Derived.Below
import Derived.Laws.BitsAllLaws
import Derived.RegionTactic
import Derived.Deep.RegionHeld3
import Derived.Deep.DrawnRows
import Derived.Deep.AppendLies
import Derived.Laws.OwnMore
import Derived.Deep.Onto
import Derived.Deep.QuietTactic
import Derived.BigQuiet
namespace Go.Proofs.Ythiojfgimjoenaa.Walks
open Go.RowKit
set_option linter.unusedVariables false
set_option linter.unusedSimpArgs false
attribute [local go_sem ↓] Go.wp_at_zero Go.wp_at_succ

set_option maxHeartbeats 4000000 in
set_option maxRecDepth 100000 in
theorem flowsOf_any (v : Value) (l : List Sl) (bk : Int) (w : World) (hv : SlAt w v l) :
    Calls Try.prog 14 #[.agg #[v], .int .i64 bk] w (OfRes (ofOut l bk) w) := by
  obtain ⟨p, c, rfl, hc, hm, _⟩ := hv.parts
  unfold maxLen at hm
  obtain ⟨W0, hW0⟩ : ∃ W0, W0 = w.alloc (.cells #[.slice p l.length c] 24) := ⟨_, rfl⟩
  have hb0 : Below w.heap.size w W0 := by rw [hW0]; exact below_newC w
  have hT0 : W0.heap[w.heap.size]? = some (.cells #[.slice p l.length c] 24 (0, 0)) := by rw [hW0]; exact heap_alloc_new _ _
  have HV : Hid (_ ∧ _ ∧ _ ∧ _) := ⟨hv, hb0, hT0, hW0⟩
  clear hv hb0 hT0 hW0
  go_enter Try.func14, Try.ntmps14
  go_wp2_with fail
  rw [← HV.out.2.2.2]
  refine (fault_any _ l _ (HV.out.1.below HV.out.2.1)).mono ?_
  rintro r w1 ⟨rfl, hb1⟩
  have hT1 := box_below HV.out.2.2.1 hb1
  have t0 := one_cell hT1
  have hlt : w.heap.size < w1.heap.size := (Array.getElem?_eq_some_iff.1 hT1).1
  have hbw := HV.out.2.1.trans (hb1.mono HV.out.2.1.size)
  have hv1 := (HV.out.1.below HV.out.2.1).below hb1
  by_cases hok : TabOk l
  · have hout : ofOut l bk = (hsOf bk l, 0) := by unfold ofOut; rw [if_pos hok]
    rw [if_pos hok]
    obtain ⟨_, _, e0, _, _, pa⟩ := hv1.parts
    injection e0 with e0 _ e1
    subst e0 e1
    have hl := hok.1.2
    have HO : Hid (_ ∧ _ ∧ _ ∧ _) := ⟨hout, pa, hbw, t0⟩
    clear hout pa hbw hb1 hT1 hok hv1 HV t0
    have t0 := HO.out.2.2.2
    go_wp2
    clear t0
    go_loopw [7, 8] (fun o i wr => ∃ (k : Nat) (p' : Option Addr) (c' : Nat), i = .int .i64 k ∧ o = .slice p' (hsTo bk l k).length c' ∧ k ≤ l.length ∧ wr.ownsRow w1.heap.size 42 2 (.slice p' (hsTo bk l k).length c') (hsTo bk l k).length (tcells (hsTo bk l k)) ∧ Below w1.heap.size w1 wr) (fun _ i _ => l.length - (intOf i).toNat)
    case atStart => exact ⟨0, none, 0, rfl, rfl, Nat.zero_le _, World.ownsRow_nil _ _ _ _, Below.refl _ _⟩
    case round =>
      obtain ⟨k, p', c', rfl, rfl, hk, ho, hb⟩ := hrel
      have t0 := (hb.cell (p := ⟨w.heap.size, 0, none⟩) hlt).trans HO.out.2.2.2
      have hltr : w.heap.size < wr.heap.size := Nat.lt_of_lt_of_le hlt hb.size
      by_cases hk' : k < l.length
      · obtain ⟨b1, o1, rfl, hb1, c1, c2, c3, c4⟩ := HO.out.2.1 k hk'
        replace c1 := (hb.cell (p := ⟨b1, o1 + k * 4, none⟩) hb1).trans c1
        replace c2 := (hb.cell (p := ⟨b1, o1 + k * 4 + 1, none⟩) hb1).trans c2
        replace c4 := (hb.cell (p := ⟨b1, o1 + k * 4 + 3, none⟩) hb1).trans c4
        have hbl1 : b1 < wr.heap.size := Nat.lt_of_lt_of_le hb1 hb.size
        have hgd : l.getD k (0, false, 0, 0) = l[k] := by simp [hk']
        obtain ⟨⟨x1, x2, x3, x4⟩, hx⟩ : ∃ x, x = l[k] := ⟨_, rfl⟩
        rw [← hx] at c1 c2 c4 hgd
        have hyes : mineB bk (x1, x2, x3, x4) = true → hsTo bk l (k + 1) = hsTo bk l k ++ [((k : Int), x1)] := fun h => by
          rw [hsTo_yes (by rw [hgd]; exact h)]
          unfold hAt
          rw [hgd]
        have hno : mineB bk (x1, x2, x3, x4) = false → hsTo bk l (k + 1) = hsTo bk l k := fun h => hsTo_no (by rw [hgd]; exact h)
        have hlen := hsTo_len bk l k
        have H : Hid (_ ∧ _) := ⟨hyes, hno⟩
        clear hyes hno hx hgd hb1 c3
        have hkI : (k : Int) < (l.length : Int) := by omega
        cases x2
        · have hn := H.out.2 (by simp [mineB])
          have H2 : Hid (_ ∧ _ ∧ _) := ⟨ho, hb, hn⟩
          clear ho hb hn
          go_wp2
          go_roundw
          case rel => exact ⟨k + 1, p', c', by simp, by rw [H2.out.2.2], hk', by rw [H2.out.2.2]; exact H2.out.1, H2.out.2.1⟩
          case measure => simp [intOf]; omega
        · cases hbb : (x4 == bk)
          · have hn := H.out.2 (by simp [mineB]; simpa using hbb)
            have H2 : Hid (_ ∧ _ ∧ _) := ⟨ho, hb, hn⟩
            clear ho hb hn
            go_wp2
            go_roundw
            case rel => exact ⟨k + 1, p', c', by simp, by rw [H2.out.2.2], hk', by rw [H2.out.2.2]; exact H2.out.1, H2.out.2.1⟩
            case measure => simp [intOf]; omega
          · have hyes := H.out.1 (by simp [mineB]; simpa using hbb)
            have hyl : (hsTo bk l (k + 1)).length = (hsTo bk l k).length + 1 := by rw [hyes]; simp
            obtain ⟨q, d, w3, hr, z0, z1⟩ := append_oneH ho hb.size (by omega) 32 (k : Int) x1
            rw [← hyes] at z0
            obtain ⟨n, hn⟩ : ∃ n, n = (hsTo bk l k).length := ⟨_, rfl⟩
            rw [← hn] at hr z0 hyl ⊢
            have H2 : Hid (_ ∧ _ ∧ _ ∧ _) := ⟨hr, z0, hb.trans z1, hyl⟩
            clear hr z0 z1 hyl hyes ho hb hn hlen
            go_wp2_with (at_builtin; (with_reducible refine wpList_append_eq rfl _ _ 32 rfl (.slice p' n c') (.slice (some ⟨wr.heap.size, 0, none⟩) 1 1) (.slice q (n + 1) d) w3 ?hs ?hx ?hr ?_); (case hs => rfl); (case hx => rfl); (case hr => exact H2.out.1))
            go_roundw
            case rel => exact ⟨k + 1, q, d, by simp, by rw [H2.out.2.2.2], hk', by rw [H2.out.2.2.2]; exact H2.out.2.1, H2.out.2.2.1⟩
            case measure => simp [intOf]; omega
      · obtain rfl : k = l.length := by omega
        have H2 : Hid (_ ∧ _) := ⟨ho, hb⟩
        clear ho hb
        go_wp2
        go_ret2
        rw [HO.out.1]
        exact ⟨p', c', rfl, H2.out.1.mono HO.out.2.2.1.size, HO.out.2.2.1.trans (H2.out.2.mono HO.out.2.2.1.size)⟩
  · have hout : ofOut l bk = ([], 6) := by unfold ofOut; rw [if_neg hok]
    rw [if_neg hok]
    have HO : Hid _ := hout
    have HB : Hid _ := hbw
    clear hbw hb1 hT1 hout hok hv1
    go_wp2
    go_ret2
    rw [HO.out]
    exact ⟨none, 0, rfl, World.ownsRow_nil _ _ _ _, HB.out⟩

set_option maxHeartbeats 2000000 in
theorem sameHandles_any (u v : Value) (l : List Tm) (w : World) (hu : TmAt w u l) (hv : TmAt w v l) :
    Calls Try.prog 15 #[u, v] w fun r w' => r = .returned (.bool true) ∧ Below w.heap.size w w' := by
  obtain ⟨a, ca, rfl, hca, hma, pa⟩ := hu.parts
  obtain ⟨b, cb, rfl, hcb, hmb, pb⟩ := hv.parts
  unfold maxLen at hma hmb
  clear hu hv
  go_enter Try.func15, Try.ntmps15
  go_wp2
  go_loopw [5] (fun i wr => ∃ k q : Nat, i = .int .i64 k ∧ k ≤ l.length ∧ wr = w.drewN q) (fun i _ => l.length - (intOf i).toNat)
  case atStart => exact ⟨0, 0, rfl, Nat.zero_le _, rfl⟩
  case round =>
    obtain ⟨k, q, rfl, hk, rfl⟩ := hrel
    by_cases hlt : k < l.length
    · obtain ⟨b1, o1, rfl, hb1, c1, c2⟩ := pa k hlt
      obtain ⟨b2, o2, rfl, hb2, d1, d2⟩ := pb k hlt
      generalize l[k].1 = x1 at c1 d1
      generalize l[k].2 = x2 at c2 d2
      clear hb1 hb2 pa pb
      have hkd : decide ((k : Int) < (l.length : Int)) = true := decide_eq_true (by omega)
      go_wp2
      go_region
      go_wp2
      go_roundw
      case rel => exact ⟨k + 1, q + 1, by simp, hlt, rfl⟩
      case measure => simp [intOf]; omega
    · obtain rfl : k = l.length := by omega
      clear pa pb
      go_wp2
      go_ret
      exact ⟨rfl, below_drewN (Below.refl _ _) q⟩

set_option maxHeartbeats 4000000 in
set_option maxRecDepth 100000 in
theorem tableOfs_row (w : World) (v : Value) (l : List Sl) (hv : SlAt w v l) (hl : l.length ≤ 4398046511104) (bk : Int) (wb : (Lit.int .i64 bk).wf = true) :
    Calls Try.prog 4 #[.agg #[v], .int .i64 bk] w fun r w' => r = .returned (.bool true) ∧ Below w.heap.size w w' := by
  obtain ⟨p, c, rfl, _⟩ := hv.parts
  obtain ⟨m, e, hme⟩ : ∃ m e, ofOut l bk = (m, e) := ⟨_, _, rfl⟩
  obtain ⟨W0, hW0⟩ : ∃ W0, W0 = w.alloc (.cells #[.slice p l.length c] 24) := ⟨_, rfl⟩
  have hb0 : Below w.heap.size w W0 := by rw [hW0]; exact below_newC w
  have hT0 : W0.heap[w.heap.size]? = some (.cells #[.slice p l.length c] 24 (0, 0)) := by rw [hW0]; exact heap_alloc_new _ _
  have HV : Hid (_ ∧ _ ∧ _ ∧ _ ∧ _) := ⟨hv.below hb0, hb0, hT0, hl, hW0⟩
  have HM : Hid (_ ∧ True) := ⟨hme, trivial⟩
  clear hv hb0 hT0 hW0 hl wb hme
  go_enter Try.func4, Try.ntmps4
  go_wp2_with fail
  rw [← HV.out.2.2.2.2]
  refine (tables_any _ l _ HV.out.1 HV.out.2.2.2.1).mono ?_
  rintro r w1 ⟨y, rfl, ho1, hb1⟩
  obtain ⟨yp, yc, rfl⟩ := own_form ho1
  have hy1 : SlAt w1 (.slice yp l.length yc) l := rowAt_own ho1
  have H1 : Hid (_ ∧ _ ∧ _ ∧ _) := ⟨hy1, HV.out.1.below hb1, box_below HV.out.2.2.1 hb1, HV.out.2.1.trans (hb1.mono HV.out.2.1.size)⟩
  clear hy1 ho1 hb1
  go_wp2_with fail
  refine (of_any _ l bk _ H1.out.1).mono ?_
  rw [HM.out.1]
  rintro r w2 ⟨p2, c2, rfl, ho2, hb2⟩
  have hm2 : TmAt w2 (.slice p2 m.length c2) m := rowAt_own ho2
  have H2 : Hid (_ ∧ _ ∧ _ ∧ _) := ⟨hm2, H1.out.2.1.below hb2, box_below H1.out.2.2.1 hb2, H1.out.2.2.2.trans (hb2.mono H1.out.2.2.2.size)⟩
  clear hm2 ho2 hb2 H1
  have t2 := one_cell H2.out.2.2.1
  go_wp2_with fail
  refine (flowsOf_any _ l bk _ H2.out.2.1).mono ?_
  rw [HM.out.1]
  rintro r w3 ⟨p3, c3, rfl, ho3, hb3⟩
  have hm3 : TmAt w3 (.slice p3 m.length c3) m := rowAt_own ho3
  have H3 : Hid (_ ∧ _ ∧ _) := ⟨hm3, H2.out.1.below hb3, H2.out.2.2.2.trans (hb3.mono H2.out.2.2.2.size)⟩
  clear hm3 ho3 hb3 H2 t2
  go_wp2_with fail
  refine (sameHandles_any _ _ m _ H3.out.2.1 H3.out.1).mono ?_
  rintro r w4 ⟨rfl, hb4⟩
  have H4 : Hid _ := H3.out.2.2.trans (hb4.mono H3.out.2.2.size)
  clear hb4
  go_wp2
  go_ret
  exact ⟨rfl, H4.out⟩
end Go.Proofs.Ythiojfgimjoenaa.Walks
