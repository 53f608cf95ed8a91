/-
  LinesBad: a line that is none is told by its place. Condition: the words, the table of powers of ten and the two errors are as their initialisers lay them.
-/
import Derived.Test.YtcjgokgembgdhaaDoorBdP
import Derived.WalkKit
import Derived.ProofKit
import Derived.Handy
import Derived.LoopTactic
import Derived.Below
import Derived.Laws.BitsAllLaws
import Derived.RegionTactic
import Derived.Deep.RegionHeld3
import Derived.Deep.DrawnRows
import Derived.Deep.AppendLies
import Derived.Laws.OwnMore
import Derived.Deep.Onto
import Derived.Deep.QuietTactic
import Derived.BigQuiet
namespace Go.Proofs.YtcjgokgembgdhaaDoor.Walks
open Go.RowKit
open Go.Proofs.YtcjgokgembgdhaaDoor.Plain
set_option linter.unusedVariables false
set_option linter.unusedSimpArgs false
attribute [local go_sem ↓] Go.wp_at_zero Go.wp_at_succ

theorem bad_cell (W : World) (i : Nat) (hi : i < 8) : (W.alloc (.cells #[.string ⟨#[111, 112, 101, 110, 10]⟩, .string ⟨#[116, 105, 99, 107, 32, 49, 10]⟩, .string ⟨#[10]⟩, .string ⟨#[99, 108, 111, 115, 101, 32, 52, 48, 32, 48, 10]⟩, .string ⟨#[106, 111, 105, 110, 32, 49, 32, 50, 32, 57, 10]⟩, .string ⟨#[97, 110, 115, 119, 101, 114, 32, 49, 32, 50, 32, 119, 101, 108, 108, 10]⟩, .string ⟨#[100, 97, 116, 97, 32, 48, 49, 32, 50, 10]⟩, .string ⟨#[84, 105, 99, 107, 10]⟩] 9)).cell? ⟨W.heap.size, i, none⟩ = some (.string ⟨(badW i).toArray⟩) := by
  rw [World.cell?, heap_new]
  have : i = 0 ∨ i = 1 ∨ i = 2 ∨ i = 3 ∨ i = 4 ∨ i = 5 ∨ i = 6 ∨ i = 7 := by omega
  rcases this with rfl | rfl | rfl | rfl | rfl | rfl | rfl | rfl <;> rfl

set_option maxHeartbeats 8000000 in
set_option maxRecDepth 100000 in
theorem bad_law (v : Value) (x : List Co) (wf : CosWf x) (at_ : Int) (wa : (Lit.int .i64 at_).wf = true) (bad_ : Int) (wb : (Lit.int .i64 bad_).wf = true) (w : World) (hG : Gr w) (hv0 : CsAt w v x) : Calls Tryd.prog 8 #[v, .int .i64 at_, .int .i64 bad_] w fun r w' => r = .returned (.bool true) ∧ Below w.heap.size w w' := by
  have h9 := hG.1.2.2
  have hfa := fits_of wa
  have hfb := fits_of wb
  obtain ⟨ax, capx, rfl, hcx, hmx, pax⟩ := Rv.RvAt.parts co4 hv0
  obtain ⟨qb, hQB⟩ : ∃ qb, pick bad_ 8 = qb := ⟨_, rfl⟩
  have hqb : qb < 8 := by rw [← hQB]; exact pick_lt _ _ (by omega)
  have HQB := Lib.hid hQB
  have HG := Lib.hid hG
  have HHx := Lib.hid (And.intro wf pax)
  clear hG wf pax hv0 wa wb hQB
  go_enter Tryd.func8, Tryd.ntmps8
  go_wp2
  go_loopw [7, 8] (fun o i wr => ∃ (k c' : Nat) (p' : Option Addr), i = .int .i64 k ∧ o = .slice p' k c' ∧ k ≤ x.length ∧ k ≤ 20 ∧ Below w.heap.size w wr ∧ wr.ownsRow w.heap.size 34 8 (.slice p' k c') k (Rv.rv evV (rws x k))) (fun _ i _ => x.length - (intOf i).toNat)
  case atStart => exact ⟨0, 0, none, rfl, rfl, Nat.zero_le _, by omega, Below.refl _ _, World.ownsRow_nil _ _ _ _⟩
  case round =>
    obtain ⟨i, ci, pi, rfl, rfl, hki, hmi, hbi, hoi⟩ := hrel
    by_cases hlti : i < x.length ∧ i < 20
    · have hkli : i < x.length := hlti.1
      have hkI : (i : Int) < (x.length : Int) := by omega
      have hkJ : (i : Int) < 20 := by omega
      obtain ⟨b, off, rfl, hbl, hcell⟩ := HHx.out.2 i hlti.1
      have hcc : ∀ jj, jj < 4 → wr.cell? ⟨b, off + i * 4 + jj, none⟩ = (coV x[i])[jj]? := fun jj hjj => by rw [hbi.cell (p := ⟨b, off + i * 4 + jj, none⟩) hbl]; exact hcell jj hjj
      have c0 : wr.cell? ⟨b, off + i * 4, none⟩ = some (.int .i64 x[i].x) := hcc 0 (by omega)
      have c1 : wr.cell? ⟨b, off + i * 4 + 1, none⟩ = some (.int .i64 x[i].y) := hcc 1 (by omega)
      have c2 : wr.cell? ⟨b, off + i * 4 + 2, none⟩ = some (.int .i64 x[i].z) := hcc 2 (by omega)
      have c3 : wr.cell? ⟨b, off + i * 4 + 3, none⟩ = some (.int .i64 x[i].u) := hcc 3 (by omega)
      have HX := Lib.hid (And.intro (rws_succ x hlti.1) (And.intro (HHx.out.1 x[i] (List.getElem_mem hlti.1)) (And.intro hbi hoi)))
      clear hcc hcell hoi
      generalize x[i] = cm at *
      go_wp2_with fail
      refine (coming_any cm wr HX.out.2.1).mono ?_
      rintro r w1 ⟨rfl, hb1⟩
      have hbw1 : Below w.heap.size w w1 := hbi.trans (hb1.mono hbi.size)
      obtain ⟨E, hE⟩ : ∃ E, E = rw1 cm := ⟨_, rfl⟩
      rw [← hE]
      obtain ⟨g2, c4, w4, hr, ho4, hg4, hlies⟩ := Rv.append_oneV ev8 ev1 (by decide) Tryd.underlying22 infoEv rfl (w := w1.alloc (.cells #[.int .i64 E.kind, .int .i64 E.key, .int .i64 E.slot, .int .i64 E.gen, .bool E.good, .int .i64 E.req, .int .i64 E.be, .int .i64 E.wt] 34)) ((own_kept HX.out.2.2.2 hb1).alloc _) (by have := hbw1.size; simp; omega) 22 E #[.int .i64 E.kind, .int .i64 E.key, .int .i64 E.slot, .int .i64 E.gen, .bool E.good, .int .i64 E.req, .int .i64 E.be, .int .i64 E.wt] rfl (by omega) (by unfold maxLen; omega)
      have hbA := hbw1.alloc hbw1.size (.cells #[.int .i64 E.kind, .int .i64 E.key, .int .i64 E.slot, .int .i64 E.gen, .bool E.good, .int .i64 E.req, .int .i64 E.be, .int .i64 E.wt] 34)
      have hb4 : Below w.heap.size w w4 := hbA.grown hg4 hbA.size (fun jj hjj => (HX.out.2.2.2.lt jj hjj).1)
      rw [hE, ← HX.out.1] at ho4
      rw [World.size_alloc] at hr
      have H4 := Lib.hid (And.intro hr (And.intro ho4 hb4))
      clear hr ho4 hb4 hg4 hlies hbA hE
      go_wp2_with (at_builtin; (with_reducible refine Rv.wpList_append_eq rfl _ _ 22 rfl (.slice pi i ci) (.slice (some ⟨w1.heap.size + 1, 0, none⟩) 1 1) (.slice (some ⟨g2, 0, none⟩) (i + 1) c4) w4 ?hs ?hx ?hr ?_); (case hs => rfl); (case hx => rfl); (case hr => exact H4.out.1))
      go_roundw
      case rel => exact ⟨i + 1, c4, some ⟨g2, 0, none⟩, by simp, rfl, hlti.1, hlti.2, H4.out.2.2, H4.out.2.1⟩
      case measure => simp [intOf]; omega
    · have hevi := rws_ok x i
      have hleni := rws_len x hki
      generalize hesi : rws x i = esi at *
      have hvEi : EsAt wr (.slice pi i ci) esi := by
        show Rv.RowAt _ _ esi.length _
        rw [hleni]; exact Rv.rowAt_own hoi
      have hcase : ((i : Int) < (x.length : Int) ∧ ¬ (i : Int) < 20) ∨ ¬ (i : Int) < (x.length : Int) := by omega
      have HXi := Lib.hid (And.intro hevi (And.intro hleni (And.intro hbi (And.intro hvEi hoi))))
      clear hevi hbi hvEi hoi hesi hlti
      obtain ⟨q, hQ⟩ : ∃ q, pick at_ (i + 1) = q := ⟨_, rfl⟩
      have hqi : q ≤ i := by have := pick_lt at_ (i + 1) (by omega); omega
      have HQ := Lib.hid hQ
      clear hQ
      rcases hcase with ⟨hkk1, hkk2⟩ | hkk1
      all_goals
        go_wp2_with fail
        refine (picked_is at_ ((i : Int) + 1) q wr hfa (by rw [show ((i : Int) + 1).toNat = i + 1 by omega]; exact HQ.out) (by omega) (by omega)).mono ?_
        rintro r w0 ⟨rfl, rfl⟩
        obtain ⟨p1, c1, p2, c2, hs1, hs2, hA, hC⟩ := cut_slices HXi.out.2.2.2.2 HXi.out.2.1 hqi
        have hBl := HXi.out.2.2.1
        have hfA : ∀ e ∈ esi.take q, fault e = 0 := fun e he => HXi.out.1 e (List.mem_of_mem_take he)
        have hfC : ∀ e ∈ esi.drop q, fault e = 0 := fun e he => HXi.out.1 e (List.mem_of_mem_drop he)
        have htl : (esi.take q).length = q := by rw [List.length_take, HXi.out.2.1]; omega
        have hdl : (esi.drop q).length ≤ 20 := by rw [List.length_drop, HXi.out.2.1]; omega
        have HZ := Lib.hid (And.intro hs1 (And.intro hs2 (And.intro hA (And.intro hC (And.intro hBl (And.intro hfA (And.intro hfC (And.intro htl hdl))))))))
        clear hs1 hs2 hA hC hBl hfA hfC htl hdl
        generalize esi.take q = eA at *
        generalize esi.drop q = eC at *
        go_wp2_with ((with_reducible refine wpList_slice_eq rfl 22 (.tmp 46) none (some (.tmp 47)) (some (.tmp 48)) rfl (.slice p1 q c1) ?hr ?_); (case hr => exact HZ.out.1 _))
        refine (show_any _ eA w0 (HG.out.1.below HZ.out.2.2.2.2.1 h9) HZ.out.2.2.1).mono ?_
        rintro r w1 ⟨rfl, hb1⟩
        rw [showR_ok HZ.out.2.2.2.2.2.1 (by have := HZ.out.2.2.2.2.2.2.2.1; omega)]
        unfold trip
        dsimp only
        have hB1 := HZ.out.2.2.2.2.1.trans (hb1.mono HZ.out.2.2.2.2.1.size)
        go_wp2_with ((with_reducible refine wpList_slice_eq rfl 22 (.tmp 55) (some (.tmp 56)) none none rfl (.slice p2 (i - q) c2) ?hr ?_); (case hr => exact HZ.out.2.1 _))
        refine (show_any _ eC w1 (HG.out.1.below hB1 h9) (HZ.out.2.2.2.1.below hb1)).mono ?_
        rintro r w2 ⟨rfl, hb2⟩
        rw [showR_ok HZ.out.2.2.2.2.2.2.1 (by have := HZ.out.2.2.2.2.2.2.2.2; omega)]
        unfold trip
        dsimp only
        have hB2 := hB1.trans (hb2.mono hB1.size)
        go_wp2_with fail
        refine (picked_is bad_ 8 qb _ hfb HQB.out (by omega) (by omega)).mono ?_
        rintro r w3 ⟨rfl, rfl⟩
        have hl1 := shown_len eA HZ.out.2.2.2.2.2.1
        have hl2 := shown_len eC HZ.out.2.2.2.2.2.2.1
        have hl3 := bad_len qb
        have hl4 := HZ.out.2.2.2.2.2.2.2.1
        have hl5 := HZ.out.2.2.2.2.2.2.2.2
        have s1 : ¬ 9223372036854775807 < (shown eA).length + (badW qb).length := by omega
        have s2 : ¬ 9223372036854775807 < (shown eA).length + (badW qb).length + (shown eC).length := by omega
        have hq0 : (0 : Int) ≤ (qb : Int) := by omega
        have hq8 : (qb : Int) < 8 := by omega
        have hcb := fun (W : World) => bad_cell W qb hqb
        have hrb := read_bad HZ.out.2.2.2.2.2.1 HZ.out.2.2.2.2.2.2.1 (by omega) hl5 qb hqb
        rw [hl4] at hrb
        have HR := Lib.hid hrb
        clear hrb
        go_wp2_with fail
        rw [cat_str, cat_str]
        refine (read_any _ _ (HG.out.below (hB2.alloc hB2.size _) h9)).mono ?_
        rintro r w4 ⟨hb4, ⟨c, p, hr, rfl⟩ | ⟨l2, v2, hr, rfl, ho2⟩⟩
        · rw [show (⟨(shown eA ++ badW qb ++ shown eC).toArray⟩ : ByteArray).data.toList = shown eA ++ badW qb ++ shown eC by simp, HR.out] at hr
          obtain ⟨rfl, rfl⟩ := Prod.mk.inj (Sum.inl.inj hr)
          have hbA := hB2.alloc hB2.size (.cells #[.string ⟨#[111, 112, 101, 110, 10]⟩, .string ⟨#[116, 105, 99, 107, 32, 49, 10]⟩, .string ⟨#[10]⟩, .string ⟨#[99, 108, 111, 115, 101, 32, 52, 48, 32, 48, 10]⟩, .string ⟨#[106, 111, 105, 110, 32, 49, 32, 50, 32, 57, 10]⟩, .string ⟨#[97, 110, 115, 119, 101, 114, 32, 49, 32, 50, 32, 119, 101, 108, 108, 10]⟩, .string ⟨#[100, 97, 116, 97, 32, 48, 49, 32, 50, 10]⟩, .string ⟨#[84, 105, 99, 107, 10]⟩] 9)
          have HB := Lib.hid (hbA.trans (hb4.mono hbA.size))
          clear hr hb4 hbA
          go_wp2
          go_ret
          exact ⟨rfl, HB.out⟩
        · rw [show (⟨(shown eA ++ badW qb ++ shown eC).toArray⟩ : ByteArray).data.toList = shown eA ++ badW qb ++ shown eC by simp, HR.out] at hr
          cases hr
end Go.Proofs.YtcjgokgembgdhaaDoor.Walks
