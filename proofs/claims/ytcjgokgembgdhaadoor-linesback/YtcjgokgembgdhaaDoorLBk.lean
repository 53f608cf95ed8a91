/-
  LinesBack: what is shown is read. Condition: the words, the table of powers of ten and the two errors are as their initialisers lay them.
-/
import Derived.Test.YtcjgokgembgdhaaDoorCom
import Derived.WalkKit
import Derived.ProofKit
import Derived.Handy
import Derived.LoopTactic
import Derived.Below
import Derived.Laws.BitsAllLaws
import Derived.RegionTactic
import Derived.Deep.RegionHeld3
import Derived.Deep.DrawnRows
import Derived.Deep.AppendLies
import Derived.Laws.OwnMore
import Derived.Deep.Onto
import Derived.Deep.QuietTactic
import Derived.BigQuiet
namespace Go.Proofs.YtcjgokgembgdhaaDoor.Walks
open Go.RowKit
open Go.Proofs.YtcjgokgembgdhaaDoor.Plain
set_option linter.unusedVariables false
set_option linter.unusedSimpArgs false
attribute [local go_sem ↓] Go.wp_at_zero Go.wp_at_succ

set_option maxHeartbeats 4000000 in
set_option maxRecDepth 100000 in
theorem back_law (v : Value) (l : List Co) (wf : CosWf l) (w : World) (hG : Gr w) (hv0 : CsAt w v l) : Calls Tryd.prog 5 #[v] w fun r w' => r = .returned (.bool true) ∧ Below w.heap.size w w' := by
  have h9 := hG.1.2.2
  obtain ⟨a, cap, rfl, hc, hm, pa⟩ := Rv.RvAt.parts co4 hv0
  have HH := Lib.hid (And.intro hG (And.intro wf pa))
  clear hG wf pa hv0
  go_enter Tryd.func5, Tryd.ntmps5
  go_wp2
  go_loopw [3, 4] (fun o i wr => ∃ (k c' : Nat) (p' : Option Addr), i = .int .i64 k ∧ o = .slice p' k c' ∧ k ≤ l.length ∧ k ≤ 50 ∧ Below w.heap.size w wr ∧ wr.ownsRow w.heap.size 34 8 (.slice p' k c') k (Rv.rv evV (rws l k))) (fun _ i _ => l.length - (intOf i).toNat)
  case atStart => exact ⟨0, 0, none, rfl, rfl, Nat.zero_le _, by omega, Below.refl _ _, World.ownsRow_nil _ _ _ _⟩
  case round =>
    obtain ⟨k, c', p', rfl, rfl, hk, hk50, hb, ho⟩ := hrel
    by_cases hlt : k < l.length ∧ k < 50
    · have hkI : (k : Int) < (l.length : Int) := by omega
      have hkJ : (k : Int) < 50 := by omega
      obtain ⟨b, off, rfl, hbl, hcell⟩ := HH.out.2.2 k hlt.1
      have hcc : ∀ j, j < 4 → wr.cell? ⟨b, off + k * 4 + j, none⟩ = (coV l[k])[j]? := fun j hj => by rw [hb.cell (p := ⟨b, off + k * 4 + j, none⟩) hbl]; exact hcell j hj
      have c0 : wr.cell? ⟨b, off + k * 4, none⟩ = some (.int .i64 l[k].x) := hcc 0 (by omega)
      have c1 : wr.cell? ⟨b, off + k * 4 + 1, none⟩ = some (.int .i64 l[k].y) := hcc 1 (by omega)
      have c2 : wr.cell? ⟨b, off + k * 4 + 2, none⟩ = some (.int .i64 l[k].z) := hcc 2 (by omega)
      have c3 : wr.cell? ⟨b, off + k * 4 + 3, none⟩ = some (.int .i64 l[k].u) := hcc 3 (by omega)
      have HX := Lib.hid (And.intro (rws_succ l hlt.1) (And.intro (HH.out.2.1 l[k] (List.getElem_mem hlt.1)) (And.intro hb ho)))
      clear hcc hcell ho
      generalize l[k] = cm at *
      go_wp2_with fail
      refine (coming_any cm wr HX.out.2.1).mono ?_
      rintro r w1 ⟨rfl, hb1⟩
      have hbw1 : Below w.heap.size w w1 := hb.trans (hb1.mono hb.size)
      obtain ⟨E, hE⟩ : ∃ E, E = rw1 cm := ⟨_, rfl⟩
      rw [← hE]
      obtain ⟨g2, c4, w4, hr, ho4, hg4, hlies⟩ := Rv.append_oneV ev8 ev1 (by decide) Tryd.underlying22 infoEv rfl (w := w1.alloc (.cells #[.int .i64 E.kind, .int .i64 E.key, .int .i64 E.slot, .int .i64 E.gen, .bool E.good, .int .i64 E.req, .int .i64 E.be, .int .i64 E.wt] 34)) ((own_kept HX.out.2.2.2 hb1).alloc _) (by have := hbw1.size; simp; omega) 22 E #[.int .i64 E.kind, .int .i64 E.key, .int .i64 E.slot, .int .i64 E.gen, .bool E.good, .int .i64 E.req, .int .i64 E.be, .int .i64 E.wt] rfl (by omega) (by unfold maxLen; omega)
      have hbA := hbw1.alloc hbw1.size (.cells #[.int .i64 E.kind, .int .i64 E.key, .int .i64 E.slot, .int .i64 E.gen, .bool E.good, .int .i64 E.req, .int .i64 E.be, .int .i64 E.wt] 34)
      have hb4 : Below w.heap.size w w4 := hbA.grown hg4 hbA.size (fun j hj => (HX.out.2.2.2.lt j hj).1)
      rw [hE, ← HX.out.1] at ho4
      rw [World.size_alloc] at hr
      have H4 := Lib.hid (And.intro hr (And.intro ho4 hb4))
      clear hr ho4 hb4 hg4 hlies hbA hE
      go_wp2_with (at_builtin; (with_reducible refine Rv.wpList_append_eq rfl _ _ 22 rfl (.slice p' k c') (.slice (some ⟨w1.heap.size + 1, 0, none⟩) 1 1) (.slice (some ⟨g2, 0, none⟩) (k + 1) c4) w4 ?hs ?hx ?hr ?_); (case hs => rfl); (case hx => rfl); (case hr => exact H4.out.1))
      go_roundw
      case rel => exact ⟨k + 1, c4, some ⟨g2, 0, none⟩, by simp, rfl, hlt.1, hlt.2, H4.out.2.2, H4.out.2.1⟩
      case measure => simp [intOf]; omega
    · have hev := rws_ok l k
      have hlen := rws_len l hk
      generalize hes : rws l k = es at *
      have hvE : EsAt wr (.slice p' k c') es := by
        show Rv.RowAt _ _ es.length _
        rw [hlen]; exact Rv.rowAt_own ho
      have hcond : (k : Int) < (l.length : Int) → ¬ (k : Int) < 50 := by omega
      have HX := Lib.hid (And.intro hev (And.intro hlen (And.intro hb hvE)))
      clear hev hb hvE ho hes
      have hsr := showR_ok HX.out.1 (by omega : es.length ≤ 4000)
      have hrd := read_shown HX.out.1 (by omega : es.length ≤ 4000)
      have HS := Lib.hid (And.intro hsr hrd)
      clear hsr hrd
      have hcase : ((k : Int) < (l.length : Int) ∧ ¬ (k : Int) < 50) ∨ ¬ (k : Int) < (l.length : Int) := by omega
      clear hcond
      rcases hcase with ⟨hk1, hk2⟩ | hk1
      all_goals
        go_wp2_with fail
        refine (show_any _ es wr (HH.out.1.1.below HX.out.2.2.1 h9) HX.out.2.2.2).mono ?_
        rintro r w1 ⟨rfl, hb1⟩
        rw [HS.out.1]
        unfold trip
        dsimp only
        have hB1 := HX.out.2.2.1.trans (hb1.mono HX.out.2.2.1.size)
        go_wp2_with fail
        refine (read_any ⟨(shown es).toArray⟩ w1 (HH.out.1.below hB1 h9)).mono ?_
        rintro r w2 ⟨hb2, ⟨c, p, hr, rfl⟩ | ⟨l2, v2, hr, rfl, ho2⟩⟩
        · rw [show (⟨(shown es).toArray⟩ : ByteArray).data.toList = shown es by simp, HS.out.2] at hr
          cases hr
        · rw [show (⟨(shown es).toArray⟩ : ByteArray).data.toList = shown es by simp, HS.out.2] at hr
          obtain rfl : es = l2 := Sum.inr.inj hr
          have hB2 := hB1.trans (hb2.mono hB1.size)
          have hvB : EsAt w2 v2 es := Rv.rvAt_own ho2
          have hvE2 : EsAt w2 (.slice p' k c') es := (HX.out.2.2.2.below hb1).below hb2
          obtain ⟨vp, vc, rfl, hvc, hvm, pb⟩ := Rv.RvAt.parts ev8 hvB
          obtain ⟨ap, ac, hap, hac, ham, pe⟩ := Rv.RvAt.parts ev8 hvE2
          rw [HX.out.2.1] at hap hvc
          simp only [Value.slice.injEq, true_and] at hap
          obtain ⟨rfl, rfl⟩ := hap
          rw [HX.out.2.1] at hac ⊢
          have HY := Lib.hid (And.intro pb (And.intro pe hB2))
          clear pb pe hB2 hvB hvE2 ho2 hr hB1 hb1 hb2
          go_wp2
          go_loopw [12] (fun i wr => ∃ j q : Nat, i = .int .i64 j ∧ j ≤ k ∧ wr = w2.drewN q) (fun i _ => k - (intOf i).toNat)
          case atStart => exact ⟨0, 0, rfl, Nat.zero_le _, rfl⟩
          case round =>
            obtain ⟨j, q, rfl, hj, rfl⟩ := hrel
            by_cases hlt2 : j < k
            · have hjl : j < es.length := by have := HX.out.2.1; omega
              have hjI : (j : Int) < (k : Int) := by omega
              obtain ⟨b1, o1, rfl, hb1, m1⟩ := HY.out.1 j hjl
              obtain ⟨b2, o2, rfl, hb2, m2⟩ := HY.out.2.1 j hjl
              have c0 := m1 0 (by omega); have c1 := m1 1 (by omega); have c2 := m1 2 (by omega); have c3 := m1 3 (by omega); have c4 := m1 4 (by omega); have c5 := m1 5 (by omega); have c6 := m1 6 (by omega); have c7 := m1 7 (by omega)
              have d0 := m2 0 (by omega); have d1 := m2 1 (by omega); have d2 := m2 2 (by omega); have d3 := m2 3 (by omega); have d4 := m2 4 (by omega); have d5 := m2 5 (by omega); have d6 := m2 6 (by omega); have d7 := m2 7 (by omega)
              generalize es[j] = E at *
              simp only [evV, List.getElem?_cons_zero, List.getElem?_cons_succ, Nat.add_zero] at c0 c1 c2 c3 c4 c5 c6 c7 d0 d1 d2 d3 d4 d5 d6 d7
              clear m1 m2 hb1 hb2
              go_wp2
              go_region
              go_wp2
              go_roundw
              case rel => exact ⟨j + 1, q + 1, by simp, hlt2, rfl⟩
              case measure => simp [intOf]; omega
            · obtain rfl : j = k := by omega
              go_wp2
              go_ret
              exact ⟨rfl, Rv.below_drewN HY.out.2.2 q⟩
end Go.Proofs.YtcjgokgembgdhaaDoor.Walks
