/-
  LinesJoin: the lines of two lists are one behind the other. Condition: the words, the table of powers of ten and the two errors are as their initialisers lay them.
-/
import Derived.Test.YtcjgokgembgdhaaDoorCom
import Derived.WalkKit
import Derived.ProofKit
import Derived.Handy
import Derived.LoopTactic
import Derived.Below
import Derived.Laws.BitsAllLaws
import Derived.RegionTactic
import Derived.Deep.RegionHeld3
import Derived.Deep.DrawnRows
import Derived.Deep.AppendLies
import Derived.Laws.OwnMore
import Derived.Deep.Onto
import Derived.Deep.QuietTactic
import Derived.BigQuiet
namespace Go.Proofs.YtcjgokgembgdhaaDoor.Walks
open Go.RowKit
open Go.Proofs.YtcjgokgembgdhaaDoor.Plain
set_option linter.unusedVariables false
set_option linter.unusedSimpArgs false
attribute [local go_sem ↓] Go.wp_at_zero Go.wp_at_succ

/-- All of another row behind one's own, also none: the run. -/
theorem append_all0 {w w0 : World} {p : Option Addr} {n cc : Nat} {m : List Ev} (ho : w.ownsRow w0.heap.size 34 8 (.slice p n cc) n (Rv.rv evV m)) (hb : w0.heap.size ≤ w.heap.size) (ty : TypeId) (u : Value) (l : List Ev) (hu : EsAt w u l) (hl : (n + l.length) * 64 ≤ 140737488355328) (hl2 : n + l.length ≤ maxLen) :
    ∃ p' c' w', (Builtin.append_ #[22, 22] ty #[.slice p n cc, u]).run Tryd.prog w = .ok (.slice p' (n + l.length) c') w' ∧ w'.ownsRow w0.heap.size 34 8 (.slice p' (n + l.length) c') (n + l.length) (Rv.rv evV (m ++ l)) ∧ Below w0.heap.size w w' := by
  by_cases h0 : 0 < l.length
  · obtain ⟨g, c', w', h1, h2, h3, h4⟩ := Rv.append_allV ev8 ev1 (by decide) Tryd.underlying22 infoEv rfl ho hb ty u l hu h0 hl hl2
    exact ⟨_, c', w', h1, h2, (Below.refl _ _).grown h3 hb (fun k hk => (ho.lt k hk).1)⟩
  · obtain rfl : l = [] := List.length_eq_zero_iff.1 (by omega)
    obtain ⟨a, cap, rfl, _⟩ := hu
    obtain ⟨i0, hi, hz0, hz1, hz2⟩ := info_parts infoEv
    refine ⟨p, cc, w, ?_, by simpa using ho, Below.refl _ _⟩
    have hn : n ≤ cc := by
      rcases ho.2 with ⟨h, h'⟩ | ⟨g, cap', cur, h, _, _, h5, _⟩
      · cases h; omega
      · cases h; exact h5
    cases p <;> cases a <;> simp [Builtin.append_, run_underlying Tryd.underlying22, sizeOf, typeInfo, hi, Builtin.firstCells, Builtin.lenOf, loadCells, loadCellsFrom, storeCells, hn]

set_option maxHeartbeats 8000000 in
set_option maxRecDepth 100000 in
theorem join_law (v : Value) (x : List Co) (wf : CosWf x) (u : Value) (y : List Co) (wf2 : CosWf y) (w : World) (hG : Gr w) (hv0 : CsAt w v x) (hv1 : CsAt w u y) : Calls Tryd.prog 7 #[v, u] w fun r w' => r = .returned (.bool true) ∧ Below w.heap.size w w' := by
  have h9 := hG.1.2.2
  obtain ⟨ax, capx, rfl, hcx, hmx, pax⟩ := Rv.RvAt.parts co4 hv0
  obtain ⟨ay, capy, rfl, hcy, hmy, pay⟩ := Rv.RvAt.parts co4 hv1
  have HG := Lib.hid hG
  have HHx := Lib.hid (And.intro wf pax)
  have HY0 := Lib.hid (And.intro wf2 pay)
  clear hG wf pax hv0 wf2 pay hv1
  go_enter Tryd.func7, Tryd.ntmps7
  go_wp2
  go_loopw [5, 7] (fun o i wr => ∃ (k c' : Nat) (p' : Option Addr), i = .int .i64 k ∧ o = .slice p' k c' ∧ k ≤ x.length ∧ k ≤ 20 ∧ Below w.heap.size w wr ∧ wr.ownsRow w.heap.size 34 8 (.slice p' k c') k (Rv.rv evV (rws x k))) (fun _ i _ => x.length - (intOf i).toNat)
  case atStart => exact ⟨0, 0, none, rfl, rfl, Nat.zero_le _, by omega, Below.refl _ _, World.ownsRow_nil _ _ _ _⟩
  case round =>
    obtain ⟨i, ci, pi, rfl, rfl, hki, hmi, hbi, hoi⟩ := hrel
    by_cases hlti : i < x.length ∧ i < 20
    · have hkli : i < x.length := hlti.1
      have hkI : (i : Int) < (x.length : Int) := by omega
      have hkJ : (i : Int) < 20 := by omega
      obtain ⟨b, off, rfl, hbl, hcell⟩ := HHx.out.2 i hlti.1
      have hcc : ∀ jj, jj < 4 → wr.cell? ⟨b, off + i * 4 + jj, none⟩ = (coV x[i])[jj]? := fun jj hjj => by rw [hbi.cell (p := ⟨b, off + i * 4 + jj, none⟩) hbl]; exact hcell jj hjj
      have c0 : wr.cell? ⟨b, off + i * 4, none⟩ = some (.int .i64 x[i].x) := hcc 0 (by omega)
      have c1 : wr.cell? ⟨b, off + i * 4 + 1, none⟩ = some (.int .i64 x[i].y) := hcc 1 (by omega)
      have c2 : wr.cell? ⟨b, off + i * 4 + 2, none⟩ = some (.int .i64 x[i].z) := hcc 2 (by omega)
      have c3 : wr.cell? ⟨b, off + i * 4 + 3, none⟩ = some (.int .i64 x[i].u) := hcc 3 (by omega)
      have HX := Lib.hid (And.intro (rws_succ x hlti.1) (And.intro (HHx.out.1 x[i] (List.getElem_mem hlti.1)) (And.intro hbi hoi)))
      clear hcc hcell hoi
      generalize x[i] = cm at *
      go_wp2_with fail
      refine (coming_any cm wr HX.out.2.1).mono ?_
      rintro r w1 ⟨rfl, hb1⟩
      have hbw1 : Below w.heap.size w w1 := hbi.trans (hb1.mono hbi.size)
      obtain ⟨E, hE⟩ : ∃ E, E = rw1 cm := ⟨_, rfl⟩
      rw [← hE]
      obtain ⟨g2, c4, w4, hr, ho4, hg4, hlies⟩ := Rv.append_oneV ev8 ev1 (by decide) Tryd.underlying22 infoEv rfl (w := w1.alloc (.cells #[.int .i64 E.kind, .int .i64 E.key, .int .i64 E.slot, .int .i64 E.gen, .bool E.good, .int .i64 E.req, .int .i64 E.be, .int .i64 E.wt] 34)) ((own_kept HX.out.2.2.2 hb1).alloc _) (by have := hbw1.size; simp; omega) 22 E #[.int .i64 E.kind, .int .i64 E.key, .int .i64 E.slot, .int .i64 E.gen, .bool E.good, .int .i64 E.req, .int .i64 E.be, .int .i64 E.wt] rfl (by omega) (by unfold maxLen; omega)
      have hbA := hbw1.alloc hbw1.size (.cells #[.int .i64 E.kind, .int .i64 E.key, .int .i64 E.slot, .int .i64 E.gen, .bool E.good, .int .i64 E.req, .int .i64 E.be, .int .i64 E.wt] 34)
      have hb4 : Below w.heap.size w w4 := hbA.grown hg4 hbA.size (fun jj hjj => (HX.out.2.2.2.lt jj hjj).1)
      rw [hE, ← HX.out.1] at ho4
      rw [World.size_alloc] at hr
      have H4 := Lib.hid (And.intro hr (And.intro ho4 hb4))
      clear hr ho4 hb4 hg4 hlies hbA hE
      go_wp2_with (at_builtin; (with_reducible refine Rv.wpList_append_eq rfl _ _ 22 rfl (.slice pi i ci) (.slice (some ⟨w1.heap.size + 1, 0, none⟩) 1 1) (.slice (some ⟨g2, 0, none⟩) (i + 1) c4) w4 ?hs ?hx ?hr ?_); (case hs => rfl); (case hx => rfl); (case hr => exact H4.out.1))
      go_roundw
      case rel => exact ⟨i + 1, c4, some ⟨g2, 0, none⟩, by simp, rfl, hlti.1, hlti.2, H4.out.2.2, H4.out.2.1⟩
      case measure => simp [intOf]; omega
    · have hevi := rws_ok x i
      have hleni := rws_len x hki
      generalize hesi : rws x i = esi at *
      have hvEi : EsAt wr (.slice pi i ci) esi := by
        show Rv.RowAt _ _ esi.length _
        rw [hleni]; exact Rv.rowAt_own hoi
      have hcase : ((i : Int) < (x.length : Int) ∧ ¬ (i : Int) < 20) ∨ ¬ (i : Int) < (x.length : Int) := by omega
      have HXi := Lib.hid (And.intro hevi (And.intro hleni (And.intro hbi (And.intro hvEi hoi))))
      clear hevi hbi hvEi hoi hesi hlti
      rcases hcase with ⟨hkk1, hkk2⟩ | hkk1
      all_goals
        go_wp2
        obtain ⟨wm, hwm⟩ : ∃ wm, wm = wr := ⟨_, rfl⟩
        subst hwm
        have HHy : Hid (CosWf y ∧ _) := ⟨HY0.out.1, fun i' hi' => (by obtain ⟨b, off, h1, h2, h3⟩ := HY0.out.2 i' hi'; exact (⟨b, off, h1, Nat.lt_of_lt_of_le h2 HXi.out.2.2.1.size, fun j' hj' => (HXi.out.2.2.1.cell (p := ⟨b, off + i' * 4 + j', none⟩) h2).trans (h3 j' hj')⟩ : ∃ b off, ay = some ⟨b, off, none⟩ ∧ b < wm.heap.size ∧ ∀ j', j' < 4 → wm.cell? ⟨b, off + i' * 4 + j', none⟩ = (coV y[i'])[j']?))⟩
        go_loopw [6, 9] (fun o i wr => ∃ (k c' : Nat) (p' : Option Addr), i = .int .i64 k ∧ o = .slice p' k c' ∧ k ≤ y.length ∧ k ≤ 20 ∧ Below wm.heap.size wm wr ∧ wr.ownsRow wm.heap.size 34 8 (.slice p' k c') k (Rv.rv evV (rws y k))) (fun _ i _ => y.length - (intOf i).toNat)
        case atStart => exact ⟨0, 0, none, rfl, rfl, Nat.zero_le _, by omega, Below.refl _ _, World.ownsRow_nil _ _ _ _⟩
        case round =>
          obtain ⟨j, cj, pj, rfl, rfl, hkj, hmj, hbj, hoj⟩ := hrel
          by_cases hltj : j < y.length ∧ j < 20
          · have hklj : j < y.length := hltj.1
            have hkI : (j : Int) < (y.length : Int) := by omega
            have hkJ : (j : Int) < 20 := by omega
            obtain ⟨b, off, rfl, hbl, hcell⟩ := HHy.out.2 j hltj.1
            have hcc : ∀ jj, jj < 4 → wr.cell? ⟨b, off + j * 4 + jj, none⟩ = (coV y[j])[jj]? := fun jj hjj => by rw [hbj.cell (p := ⟨b, off + j * 4 + jj, none⟩) hbl]; exact hcell jj hjj
            have c0 : wr.cell? ⟨b, off + j * 4, none⟩ = some (.int .i64 y[j].x) := hcc 0 (by omega)
            have c1 : wr.cell? ⟨b, off + j * 4 + 1, none⟩ = some (.int .i64 y[j].y) := hcc 1 (by omega)
            have c2 : wr.cell? ⟨b, off + j * 4 + 2, none⟩ = some (.int .i64 y[j].z) := hcc 2 (by omega)
            have c3 : wr.cell? ⟨b, off + j * 4 + 3, none⟩ = some (.int .i64 y[j].u) := hcc 3 (by omega)
            have HX := Lib.hid (And.intro (rws_succ y hltj.1) (And.intro (HHy.out.1 y[j] (List.getElem_mem hltj.1)) (And.intro hbj hoj)))
            clear hcc hcell hoj
            generalize y[j] = cm at *
            go_wp2_with fail
            refine (coming_any cm wr HX.out.2.1).mono ?_
            rintro r w1 ⟨rfl, hb1⟩
            have hbw1 : Below wm.heap.size wm w1 := hbj.trans (hb1.mono hbj.size)
            obtain ⟨E, hE⟩ : ∃ E, E = rw1 cm := ⟨_, rfl⟩
            rw [← hE]
            obtain ⟨g2, c4, w4, hr, ho4, hg4, hlies⟩ := Rv.append_oneV ev8 ev1 (by decide) Tryd.underlying22 infoEv rfl (w := w1.alloc (.cells #[.int .i64 E.kind, .int .i64 E.key, .int .i64 E.slot, .int .i64 E.gen, .bool E.good, .int .i64 E.req, .int .i64 E.be, .int .i64 E.wt] 34)) ((own_kept HX.out.2.2.2 hb1).alloc _) (by have := hbw1.size; simp; omega) 22 E #[.int .i64 E.kind, .int .i64 E.key, .int .i64 E.slot, .int .i64 E.gen, .bool E.good, .int .i64 E.req, .int .i64 E.be, .int .i64 E.wt] rfl (by omega) (by unfold maxLen; omega)
            have hbA := hbw1.alloc hbw1.size (.cells #[.int .i64 E.kind, .int .i64 E.key, .int .i64 E.slot, .int .i64 E.gen, .bool E.good, .int .i64 E.req, .int .i64 E.be, .int .i64 E.wt] 34)
            have hb4 : Below wm.heap.size wm w4 := hbA.grown hg4 hbA.size (fun jj hjj => (HX.out.2.2.2.lt jj hjj).1)
            rw [hE, ← HX.out.1] at ho4
            rw [World.size_alloc] at hr
            have H4 := Lib.hid (And.intro hr (And.intro ho4 hb4))
            clear hr ho4 hb4 hg4 hlies hbA hE
            go_wp2_with (at_builtin; (with_reducible refine Rv.wpList_append_eq rfl _ _ 22 rfl (.slice pj j cj) (.slice (some ⟨w1.heap.size + 1, 0, none⟩) 1 1) (.slice (some ⟨g2, 0, none⟩) (j + 1) c4) w4 ?hs ?hx ?hr ?_); (case hs => rfl); (case hx => rfl); (case hr => exact H4.out.1))
            go_roundw
            case rel => exact ⟨j + 1, c4, some ⟨g2, 0, none⟩, by simp, rfl, hltj.1, hltj.2, H4.out.2.2, H4.out.2.1⟩
            case measure => simp [intOf]; omega
          · have hevj := rws_ok y j
            have hlenj := rws_len y hkj
            generalize hesj : rws y j = esj at *
            have hvEj : EsAt wr (.slice pj j cj) esj := by
              show Rv.RowAt _ _ esj.length _
              rw [hlenj]; exact Rv.rowAt_own hoj
            have hcase : ((j : Int) < (y.length : Int) ∧ ¬ (j : Int) < 20) ∨ ¬ (j : Int) < (y.length : Int) := by omega
            have HXj := Lib.hid (And.intro hevj (And.intro hlenj (And.intro hbj (And.intro hvEj hoj))))
            clear hevj hbj hvEj hoj hesj hltj
            rcases hcase with ⟨hkk1, hkk2⟩ | hkk1
            all_goals
              obtain ⟨wl, hwl⟩ : ∃ wl, wl = wr := ⟨_, rfl⟩
              subst hwl
              have hBl : Below w.heap.size w wl := HXi.out.2.2.1.trans (HXj.out.2.2.1.mono HXi.out.2.2.1.size)
              have hA : EsAt wl (.slice pi i ci) esi := HXi.out.2.2.2.1.below HXj.out.2.2.1
              have hC : EsAt wl (.slice pj j cj) esj := HXj.out.2.2.2.1
              go_wp2_with fail
              refine (show_any _ esi wl (HG.out.1.below hBl h9) hA).mono ?_
              rintro r w1 ⟨rfl, hb1⟩
              rw [showR_ok HXi.out.1 (by omega : esi.length ≤ 4000)]
              unfold trip
              dsimp only
              have hB1 := hBl.trans (hb1.mono hBl.size)
              go_wp2_with fail
              refine (show_any _ esj w1 (HG.out.1.below hB1 h9) (hC.below hb1)).mono ?_
              rintro r w2 ⟨rfl, hb2⟩
              rw [showR_ok HXj.out.1 (by omega : esj.length ≤ 4000)]
              unfold trip
              dsimp only
              have hB2 := hB1.trans (hb2.mono hB1.size)
              have hA2 : EsAt w2 (.slice pi i ci) esi := (hA.below hb1).below hb2
              have hC2 : EsAt w2 (.slice pj j cj) esj := (hC.below hb1).below hb2
              obtain ⟨q3, c3, w3, hr3, ho3, hb3⟩ := Rv.append_copyV ev8 ev1 (by decide) Tryd.underlying22 infoEv rfl w2 22 _ esi hA2 (by omega) (by unfold maxLen; omega)
              obtain ⟨q4, c4, w4, hr4, ho4, hb4⟩ := append_all0 ho3 hb3.size 22 _ esj (hC2.below hb3) (by omega) (by unfold maxLen; omega)
              have hB3 := hB2.trans (hb3.mono hB2.size)
              have hB4 : Below w.heap.size w w4 := hB2.trans ((hb3.trans hb4).mono hB2.size)
              have hij : esi.length + esj.length = i + j := by rw [HXi.out.2.1, HXj.out.2.1]
              have hv4 : EsAt w4 (.slice q4 (i + j) c4) (esi ++ esj) := by
                show Rv.RowAt _ _ (esi ++ esj).length _
                rw [List.length_append, hij]
                rw [hij] at ho4
                exact Rv.rowAt_own ho4
              rw [HXi.out.2.1] at hr3 hr4
              rw [HXj.out.2.1] at hr4
              have hall : ∀ e ∈ esi ++ esj, fault e = 0 := fun e he => by
                rcases List.mem_append.1 he with he | he
                · exact HXi.out.1 e he
                · exact HXj.out.1 e he
              have hal : (esi ++ esj).length ≤ 4000 := by rw [List.length_append]; omega
              have hsh : shown (esi ++ esj) = shown esi ++ shown esj := by simp [shown]
              have hsr := showR_ok hall hal
              have hrd := read_shown hall hal
              have hl1 := shown_len esi HXi.out.1
              have hl2 := shown_len esj HXj.out.1
              have s1 : ¬ 9223372036854775807 < (shown esi).length + (shown esj).length := by omega
              have HZ := Lib.hid (And.intro hr3 (And.intro hr4 (And.intro hB4 (And.intro hv4 (And.intro hsr (And.intro hrd hsh))))))
              clear hr3 hr4 hB4 hv4 hsr hrd hsh hall hal ho3 ho4 hA2 hC2 hb3 hb4 hB3
              go_wp2_with (at_builtin; first | ((with_reducible refine Rv.wpList_append_eq rfl _ _ 22 rfl (.slice none 0 0) (.slice pi i ci) (.slice q3 i c3) w3 ?hs ?hx ?hr ?_); (case hs => rfl); (case hx => rfl); (case hr => exact HZ.out.1)) | ((with_reducible refine Rv.wpList_append_eq rfl _ _ 22 rfl (.slice q3 i c3) (.slice pj j cj) (.slice q4 (i + j) c4) w4 ?hs ?hx ?hr ?_); (case hs => rfl); (case hx => rfl); (case hr => exact HZ.out.2.1)))
              refine (show_any _ (esi ++ esj) w4 (HG.out.1.below HZ.out.2.2.1 h9) HZ.out.2.2.2.1).mono ?_
              rintro r w5 ⟨rfl, hb5⟩
              rw [HZ.out.2.2.2.2.1]
              unfold trip
              dsimp only
              have hB5 := HZ.out.2.2.1.trans (hb5.mono HZ.out.2.2.1.size)
              go_wp2_with fail
              refine (read_any ⟨(shown (esi ++ esj)).toArray⟩ w5 (HG.out.below hB5 h9)).mono ?_
              rintro r w6 ⟨hb6, ⟨c, p, hr, rfl⟩ | ⟨l2, v2, hr, rfl, ho2⟩⟩
              · rw [show (⟨(shown (esi ++ esj)).toArray⟩ : ByteArray).data.toList = shown (esi ++ esj) by simp, HZ.out.2.2.2.2.2.1] at hr
                cases hr
              · rw [show (⟨(shown (esi ++ esj)).toArray⟩ : ByteArray).data.toList = shown (esi ++ esj) by simp, HZ.out.2.2.2.2.2.1] at hr
                have hl2' : l2.length = i + j := by rw [← Sum.inr.inj hr, List.length_append, hij]
                obtain ⟨vp, vc, rfl⟩ := Rv.own_form ho2
                rw [hl2', HZ.out.2.2.2.2.2.2]
                have HB := Lib.hid (hB5.trans (hb6.mono hB5.size))
                clear hr ho2 hl2' hb6 hb5
                have hw : IntKind.i64.wrap ((i : Int) + (j : Int)) = (i : Int) + (j : Int) := by rw [IntKind.wrap_i64]; omega
                have hw2 : wrap64 ((i : Int) + (j : Int)) = (i : Int) + (j : Int) := by unfold wrap64; omega
                have hcc2 : ((⟨(shown esi).toArray⟩ : ByteArray) ++ ⟨(shown esj).toArray⟩) = ⟨(shown esi ++ shown esj).toArray⟩ := cat_str _ _
                have hl0 : (shown esi).length + (shown esj).length ≤ 9223372036854775807 := by omega
                go_wp2
                go_ret
                exact ⟨rfl, HB.out⟩
end Go.Proofs.YtcjgokgembgdhaaDoor.Walks
