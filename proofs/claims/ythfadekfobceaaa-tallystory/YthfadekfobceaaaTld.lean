/-
  usherkeep.tolds: outputs that can be counted. Condition: what is told can be read.
-/
import Derived.Test.YthfadekfobceaaaOpensT
import Derived.Test.YthfadekfobceaaaSto
import Derived.WalkKit
import Derived.ProofKit
import Derived.Handy
import Derived.LoopTactic
import Derived.Below
import Derived.Laws.BitsAllLaws
import Derived.RegionTactic
import Derived.Deep.RegionHeld3
import Derived.Deep.DrawnRows
import Derived.Deep.AppendLies
import Derived.Laws.OwnMore
import Derived.Deep.Onto
import Derived.Deep.QuietTactic
import Derived.BigQuiet
namespace Go.Proofs.Ythfadekfobceaaa.Walks
open Go.RowKit
set_option linter.unusedVariables false
set_option linter.unusedSimpArgs false
attribute [local go_sem ↓] Go.wp_at_zero Go.wp_at_succ

/-- An output out of what is told of it. -/
def toO (x : To) : Ou := ⟨1 + (pick x.a 10 : Nat), (pick x.b 3 : Nat), (pick x.c 2 : Nat), (pick x.d 12 : Nat), 0, 0, (pick x.e 6 : Nat)⟩

def toL (l : List To) : List Ou := (l.take 60).map toO

theorem toL_len (l : List To) : (toL l).length ≤ 60 := by simp [toL]; omega

/-- An output as they are told. -/
abbrev Fine (o : Ou) : Prop := (1 ≤ o.kind ∧ o.kind ≤ 10) ∧ (0 ≤ o.slot ∧ o.slot < 3) ∧ (0 ≤ o.gen ∧ o.gen < 2) ∧ (0 ≤ o.be ∧ o.be < 12) ∧ (0 ≤ o.why ∧ o.why < 6) ∧ o.req = 0 ∧ o.code = 0

theorem toL_fine (l : List To) : ∀ o ∈ toL l, Fine o := by
  intro o ho
  obtain ⟨x, _, rfl⟩ := List.mem_map.1 ho
  have h1 := pick_lt x.a 10 (by omega)
  have h2 := pick_lt x.b 3 (by omega)
  have h3 := pick_lt x.c 2 (by omega)
  have h4 := pick_lt x.d 12 (by omega)
  have h5 := pick_lt x.e 6 (by omega)
  unfold toO
  refine ⟨⟨?_, ?_⟩, ⟨?_, ?_⟩, ⟨?_, ?_⟩, ⟨?_, ?_⟩, ⟨?_, ?_⟩, rfl, rfl⟩ <;> simp only <;> omega

theorem fine_wf {o : Ou} (h : Fine o) : OuWf o := by
  obtain ⟨⟨a1, a2⟩, ⟨b1, b2⟩, ⟨c1, c2⟩, ⟨d1, d2⟩, ⟨e1, e2⟩, f1, f2⟩ := h
  intro u hu
  simp only [List.mem_cons, List.not_mem_nil, or_false] at hu
  rcases hu with rfl | rfl | rfl | rfl | rfl | rfl | rfl <;> exact wf_small (by omega) (by omega)

theorem fine_ok {l : List Ou} (h : ∀ o ∈ l, Fine o) : anyBad l = false ∧ anyBadB l = false := by
  constructor
  · refine List.any_eq_false.2 fun o ho => ?_
    have := h o ho
    simp [badO]
    omega
  · refine List.any_eq_false.2 fun o ho => ?_
    have := h o ho
    simp [badB]
    omega

theorem held5 {w w' : World} {b0 : Nat} {o0 o1 o2 o3 o4 : Nat} {v0 v1 v2 v3 v4 : Value} (h0 : w.cell? ⟨b0, o0, none⟩ = some v0) (h1 : w.cell? ⟨b0, o1, none⟩ = some v1) (h2 : w.cell? ⟨b0, o2, none⟩ = some v2) (h3 : w.cell? ⟨b0, o3, none⟩ = some v3) (h4 : w.cell? ⟨b0, o4, none⟩ = some v4) (hb : Below w.heap.size w w') :
    w'.cell? ⟨b0, o0, none⟩ = some v0 ∧ w'.cell? ⟨b0, o1, none⟩ = some v1 ∧ w'.cell? ⟨b0, o2, none⟩ = some v2 ∧ w'.cell? ⟨b0, o3, none⟩ = some v3 ∧ w'.cell? ⟨b0, o4, none⟩ = some v4 ∧ Below w.heap.size w w' :=
  ⟨(hb.cell (World.block_lt_of_cell? w _ h0)).trans h0, (hb.cell (World.block_lt_of_cell? w _ h1)).trans h1, (hb.cell (World.block_lt_of_cell? w _ h2)).trans h2, (hb.cell (World.block_lt_of_cell? w _ h3)).trans h3, (hb.cell (World.block_lt_of_cell? w _ h4)).trans h4, hb⟩

theorem take60 {l : List To} {k : Nat} (hk : k < l.length) (h6 : k < 60) {x : To} (hx : x = l[k]) : (l.take (k + 1)).map toO = (l.take k).map toO ++ [toO x] := by
  rw [List.take_succ_eq_append_getElem hk, hx, List.map_append]
  rfl

set_option maxHeartbeats 8000000 in
set_option maxRecDepth 100000 in
theorem tolds_any (v : Value) (l : List To) (w : World) (hv : RvAt toV w v l) (hwf : ∀ o ∈ l, ToWf o) :
    Calls Try.prog 22 #[v] w fun r w' => ∃ p c, r = .returned (.slice p (toL l).length c) ∧ OsAt w' (.slice p (toL l).length c) (toL l) ∧ Below w.heap.size w w' := by
  obtain ⟨a, cap, rfl, hc, hm, pv⟩ := RvAt.parts to5 hv
  unfold maxLen at hm
  have HV : Hid (_ ∧ _ ∧ _) := ⟨hv, pv, hwf⟩
  clear hv pv hwf
  go_enter Try.func22, Try.ntmps22
  go_wp2
  go_loopw [3, 4] (fun o i wr => ∃ (k c' : Nat) (p' : Option Addr), i = .int .i64 k ∧ o = .slice p' k c' ∧ k ≤ l.length ∧ k ≤ 60 ∧ Below w.heap.size w wr ∧ wr.ownsRow w.heap.size 48 7 (.slice p' k c') k (rv ouV ((l.take k).map toO))) (fun _ i _ => l.length - (intOf i).toNat)
  case atStart => exact ⟨0, 0, none, rfl, rfl, Nat.zero_le _, Nat.zero_le _, Below.refl _ _, World.ownsRow_nil _ _ _ _⟩
  case round =>
    obtain ⟨k, c', p', rfl, rfl, hk, hk6, hb, ho⟩ := hrel
    by_cases hlt : k < l.length
    · by_cases h6 : k < 60
      · obtain ⟨b0, off, rfl, hb0, hcell⟩ := HV.out.2.1 k hlt
        have q0 := hcell 0 (by omega)
        have q1 := hcell 1 (by omega)
        have q2 := hcell 2 (by omega)
        have q3 := hcell 3 (by omega)
        have q4 := hcell 4 (by omega)
        have d0 := (hb.cell (p := ⟨b0, off + k * 5 + 0, none⟩) hb0).trans (hcell 0 (by omega))
        have d1 := (hb.cell (p := ⟨b0, off + k * 5 + 1, none⟩) hb0).trans (hcell 1 (by omega))
        have d2 := (hb.cell (p := ⟨b0, off + k * 5 + 2, none⟩) hb0).trans (hcell 2 (by omega))
        have d3 := (hb.cell (p := ⟨b0, off + k * 5 + 3, none⟩) hb0).trans (hcell 3 (by omega))
        have d4 := (hb.cell (p := ⟨b0, off + k * 5 + 4, none⟩) hb0).trans (hcell 4 (by omega))
        have hx5 := HV.out.2.2 _ (List.getElem_mem hlt)
        obtain ⟨⟨xa, xb, xc, xd, xe⟩, hx⟩ : ∃ x, x = l[k] := ⟨_, rfl⟩
        have htk := take60 hlt h6 hx
        rw [← hx] at d0 d1 d2 d3 d4 hx5 q0 q1 q2 q3 q4
        simp only [List.getElem?_cons_zero, List.getElem?_cons_succ, Nat.add_zero] at d0 d1 d2 d3 d4 q0 q1 q2 q3 q4
        have hkI : (k : Int) < (l.length : Int) := by omega
        have hkI6 : (k : Int) < 60 := by omega
        obtain ⟨wa, wb, wc, wd, we⟩ := hx5
        have pa := fun W => picked_any xa 10 W (wf_bd wa).1 (wf_bd wa).2 (by omega) (by omega)
        have pb := fun W => picked_any xb 3 W (wf_bd wb).1 (wf_bd wb).2 (by omega) (by omega)
        have pc := fun W => picked_any xc 2 W (wf_bd wc).1 (wf_bd wc).2 (by omega) (by omega)
        have pd := fun W => picked_any xd 12 W (wf_bd wd).1 (wf_bd wd).2 (by omega) (by omega)
        have pe := fun W => picked_any xe 6 W (wf_bd we).1 (wf_bd we).2 (by omega) (by omega)
        have l1 := pick_lt xa 10 (by omega)
        have hto : toO ⟨xa, xb, xc, xd, xe⟩ = ⟨1 + (pick xa 10 : Nat), (pick xb 3 : Nat), (pick xc 2 : Nat), (pick xd 12 : Nat), 0, 0, (pick xe 6 : Nat)⟩ := rfl
        rw [hto] at htk
        change ∀ W, Calls _ _ #[_, .int .i64 10] W fun r w' => r = .returned (.int .i64 ((pick xa 10 : Nat) : Int)) ∧ w' = W at pa
        change ∀ W, Calls _ _ #[_, .int .i64 3] W fun r w' => r = .returned (.int .i64 ((pick xb 3 : Nat) : Int)) ∧ w' = W at pb
        change ∀ W, Calls _ _ #[_, .int .i64 2] W fun r w' => r = .returned (.int .i64 ((pick xc 2 : Nat) : Int)) ∧ w' = W at pc
        change ∀ W, Calls _ _ #[_, .int .i64 12] W fun r w' => r = .returned (.int .i64 ((pick xd 12 : Nat) : Int)) ∧ w' = W at pd
        change ∀ W, Calls _ _ #[_, .int .i64 6] W fun r w' => r = .returned (.int .i64 ((pick xe 6 : Nat) : Int)) ∧ w' = W at pe
        generalize pick xa 10 = na at pa l1 htk
        generalize pick xb 3 = nb at pb htk
        generalize pick xc 2 = nc at pc htk
        generalize pick xd 12 = nd at pd htk
        generalize pick xe 6 = ne at pe htk
        obtain ⟨g2, c2, w4, hr0, ho4, hg4, hlies⟩ := append_oneV ou7 ou1 (by decide) Try.underlying22 infoOu rfl (w := wr.drew) ho hb.size 22 (⟨IntKind.i64.wrap (1 + (na : Int)), nb, nc, nd, 0, 0, ne⟩ : Ou) #[.int .i64 (IntKind.i64.wrap (1 + (na : Int))), .int .i64 nb, .int .i64 nc, .int .i64 nd, .int .i64 0, .int .i64 0, .int .i64 ne] rfl (by omega) (by unfold maxLen; omega)
        have hwr : IntKind.i64.wrap (1 + (na : Int)) = 1 + (na : Int) := by rw [IntKind.wrap_i64]; omega
        rw [← hwr] at htk
        have hr : (Builtin.append_ #[22, 22] 22 #[.slice p' k c', .slice (some ⟨wr.heap.size, 0, none⟩) 1 1]).run Try.prog ((wr.alloc (.cells #[.int .i64 (IntKind.i64.wrap (1 + (na : Int))), .int .i64 nb, .int .i64 nc, .int .i64 nd, .int .i64 0, .int .i64 0, .int .i64 ne] 48)).drew) = .ok (.slice (some ⟨g2, 0, none⟩) (k + 1) c2) w4 := hr0
        have hbd : Below w.heap.size w wr.drew := hb.trans ⟨rfl, rfl, rfl, Nat.le_refl _, fun _ _ => rfl⟩
        have hb4 : Below w.heap.size w w4 := hbd.grown hg4 hb.size (fun j hj => (ho.lt j hj).1)
        have hS0 : wr.drew.cell? ⟨b0, off + k * 5, none⟩ = some (.int .i64 xa) ∧ wr.drew.cell? ⟨b0, off + k * 5 + 1, none⟩ = some (.int .i64 xb) ∧ wr.drew.cell? ⟨b0, off + k * 5 + 2, none⟩ = some (.int .i64 xc) ∧ wr.drew.cell? ⟨b0, off + k * 5 + 3, none⟩ = some (.int .i64 xd) ∧ wr.drew.cell? ⟨b0, off + k * 5 + 4, none⟩ = some (.int .i64 xe) := ⟨d0, d1, d2, d3, d4⟩
        have hS1 : ((wr.alloc (.cells #[.int .i64 (IntKind.i64.wrap (1 + (na : Int))), .int .i64 nb, .int .i64 nc, .int .i64 nd, .int .i64 0, .int .i64 0, .int .i64 ne] 48)).drew).cell? ⟨b0, off + k * 5, none⟩ = some (.int .i64 xa) ∧ ((wr.alloc (.cells #[.int .i64 (IntKind.i64.wrap (1 + (na : Int))), .int .i64 nb, .int .i64 nc, .int .i64 nd, .int .i64 0, .int .i64 0, .int .i64 ne] 48)).drew).cell? ⟨b0, off + k * 5 + 1, none⟩ = some (.int .i64 xb) ∧ ((wr.alloc (.cells #[.int .i64 (IntKind.i64.wrap (1 + (na : Int))), .int .i64 nb, .int .i64 nc, .int .i64 nd, .int .i64 0, .int .i64 0, .int .i64 ne] 48)).drew).cell? ⟨b0, off + k * 5 + 2, none⟩ = some (.int .i64 xc) ∧ ((wr.alloc (.cells #[.int .i64 (IntKind.i64.wrap (1 + (na : Int))), .int .i64 nb, .int .i64 nc, .int .i64 nd, .int .i64 0, .int .i64 0, .int .i64 ne] 48)).drew).cell? ⟨b0, off + k * 5 + 3, none⟩ = some (.int .i64 xd) ∧ ((wr.alloc (.cells #[.int .i64 (IntKind.i64.wrap (1 + (na : Int))), .int .i64 nb, .int .i64 nc, .int .i64 nd, .int .i64 0, .int .i64 0, .int .i64 ne] 48)).drew).cell? ⟨b0, off + k * 5 + 4, none⟩ = some (.int .i64 xe) := by
          obtain ⟨z0, z1, z2, z3, z4, _⟩ := held5 d0 d1 d2 d3 d4 (((Below.refl wr.heap.size wr).drew).alloc (Nat.le_refl _) (.cells #[.int .i64 (IntKind.i64.wrap (1 + (na : Int))), .int .i64 nb, .int .i64 nc, .int .i64 nd, .int .i64 0, .int .i64 0, .int .i64 ne] 48))
          exact ⟨z0, z1, z2, z3, z4⟩
        have HP : Hid (_ ∧ _ ∧ _ ∧ _ ∧ _) := ⟨pa, pb, pc, pd, pe⟩
        have H4 : Hid (_ ∧ _ ∧ _ ∧ _) := ⟨hr, ho4, hb4, htk⟩
        have hS2 : w4.cell? ⟨b0, off + k * 5, none⟩ = some (.int .i64 xa) ∧ w4.cell? ⟨b0, off + k * 5 + 1, none⟩ = some (.int .i64 xb) ∧ w4.cell? ⟨b0, off + k * 5 + 2, none⟩ = some (.int .i64 xc) ∧ w4.cell? ⟨b0, off + k * 5 + 3, none⟩ = some (.int .i64 xd) ∧ w4.cell? ⟨b0, off + k * 5 + 4, none⟩ = some (.int .i64 xe) := ⟨(hb4.cell (p := ⟨b0, off + k * 5, none⟩) hb0).trans q0, (hb4.cell (p := ⟨b0, off + k * 5 + 1, none⟩) hb0).trans q1, (hb4.cell (p := ⟨b0, off + k * 5 + 2, none⟩) hb0).trans q2, (hb4.cell (p := ⟨b0, off + k * 5 + 3, none⟩) hb0).trans q3, (hb4.cell (p := ⟨b0, off + k * 5 + 4, none⟩) hb0).trans q4⟩
        clear hwr hr0 q0 q1 q2 q3 q4 hr ho4 hb4 hg4 hlies pa pb pc pd pe hb ho hx htk hcell hb0 wa wb wc wd we hbd hto
        go_wp2
        go_region_held3 (fun W => W.cell? ⟨b0, off + k * 5, none⟩ = some (.int .i64 xa) ∧ W.cell? ⟨b0, off + k * 5 + 1, none⟩ = some (.int .i64 xb) ∧ W.cell? ⟨b0, off + k * 5 + 2, none⟩ = some (.int .i64 xc) ∧ W.cell? ⟨b0, off + k * 5 + 3, none⟩ = some (.int .i64 xd) ∧ W.cell? ⟨b0, off + k * 5 + 4, none⟩ = some (.int .i64 xe)) (first | exact hS0 | exact hS1 | exact hS2) (first | (go_at_call_of 23 (Value.int .i64 xa); refine (HP.out.1 _).mono ?_; rintro r w5 ⟨rfl, rfl⟩) | (go_at_call_of 23 (Value.int .i64 xb); refine (HP.out.2.1 _).mono ?_; rintro r w5 ⟨rfl, rfl⟩) | (go_at_call_of 23 (Value.int .i64 xc); refine (HP.out.2.2.1 _).mono ?_; rintro r w5 ⟨rfl, rfl⟩) | (go_at_call_of 23 (Value.int .i64 xd); refine (HP.out.2.2.2.1 _).mono ?_; rintro r w5 ⟨rfl, rfl⟩) | (go_at_call_of 23 (Value.int .i64 xe); refine (HP.out.2.2.2.2 _).mono ?_; rintro r w5 ⟨rfl, rfl⟩) | (refine step_append_eq (by rfl) _ _ 22 (by rfl) _ _ _ _ (by rfl) (by rfl) H4.out.1 ?_))
        all_goals
          clear hS0 hS1 hS2 d0 d1 d2 d3 d4
          go_wp2
          go_roundw
          case rel => exact ⟨k + 1, c2, some ⟨g2, 0, none⟩, by simp, rfl, hlt, h6, H4.out.2.2.1, by rw [H4.out.2.2.2]; exact H4.out.2.1⟩
          case measure => simp [intOf]; omega
      · have hk6d : ¬ ((k : Int) < 60) := by omega
        have hkI : (k : Int) < (l.length : Int) := by omega
        have hk60 : k = 60 := by omega
        have hln : (toL l).length = k := by simp [toL]; omega
        have ho2 : wr.ownsRow w.heap.size 48 7 (.slice p' k c') k (rv ouV (toL l)) := by unfold toL; rw [← hk60]; exact ho
        have H2 : Hid (_ ∧ _ ∧ _) := ⟨ho2, hb, hln⟩
        clear ho ho2 hb hln hk60
        go_wp2
        go_ret
        refine ⟨p', c', by rw [H2.out.2.2]; rfl, ?_, H2.out.2.1⟩
        show RowAt _ _ (toL l).length _
        rw [H2.out.2.2]
        exact rowAt_own H2.out.1
    · have hkI : ¬ ((k : Int) < (l.length : Int)) := by omega
      have hln : (toL l).length = k := by simp [toL]; omega
      have ho2 : wr.ownsRow w.heap.size 48 7 (.slice p' k c') k (rv ouV (toL l)) := by
        have : l.take 60 = l.take k := by rw [List.take_of_length_le (by omega), List.take_of_length_le (by omega)]
        unfold toL; rw [this]; exact ho
      have H2 : Hid (_ ∧ _ ∧ _) := ⟨ho2, hb, hln⟩
      clear ho ho2 hb hln
      go_wp2
      go_ret
      refine ⟨p', c', by rw [H2.out.2.2]; rfl, ?_, H2.out.2.1⟩
      show RowAt _ _ (toL l).length _
      rw [H2.out.2.2]
      exact rowAt_own H2.out.1
end Go.Proofs.Ythfadekfobceaaa.Walks
