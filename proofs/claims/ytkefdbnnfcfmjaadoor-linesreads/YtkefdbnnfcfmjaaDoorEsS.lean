/-
  The document's EventsShown, and the law's own copy and comparison of events. Condition: at most 2^47 bytes of events.
-/
import Derived.Test.YtkefdbnnfcfmjaaDoorEvL
import Derived.WalkKit
import Derived.ProofKit
import Derived.Handy
import Derived.LoopTactic
import Derived.Below
import Derived.Laws.BitsAllLaws
import Derived.RegionTactic
import Derived.Deep.RegionHeld3
import Derived.Deep.DrawnRows
import Derived.Deep.AppendLies
import Derived.Laws.OwnMore
import Derived.Deep.Onto
import Derived.Deep.QuietTactic
import Derived.BigQuiet
namespace Go.Proofs.YtkefdbnnfcfmjaaDoor.Walks
open Go.RowKit
open Go.Proofs.YtkefdbnnfcfmjaaDoor.Plain
set_option linter.unusedVariables false
set_option linter.unusedSimpArgs false
attribute [local go_sem ↓] Go.wp_at_zero Go.wp_at_succ

theorem conv_own {W : World} {base n : Nat} {v : Value} {l : List UInt8} (ho : W.ownsRow base 5 1 v n (Lib.byteCells l)) (hn : n = l.length) : (convert 44 9 v).run Tryd.prog W = .ok (.string ⟨l.toArray⟩) W := by
  subst hn
  rcases ho.2 with ⟨rfl, h0⟩ | ⟨g, cap, cur, rfl, _, hg, _, _, _, ht⟩
  · obtain rfl : l = [] := List.length_eq_zero_iff.1 h0
    exact run_convert_bytes_nil W 44 5 Tryd.underlying44 Tryd.underlying5 0 0 9 Tryd.underlying9
  · exact run_convert_bytes_back W 44 9 5 ⟨g, 0, none⟩ cap l Tryd.underlying44 Tryd.underlying5 Tryd.underlying9 (fun j hj => by
      have := ho.cells (g := g) rfl j (.int .u8 l[j].toNat) (by simp [Lib.byteCells, hj])
      exact this)

set_option maxHeartbeats 4000000 in
set_option maxRecDepth 100000 in
theorem evsShown_any (v : Value) (l : List Ev) (w : World) (hv : EsAt w v l) :
    Calls Tryd.prog 11 #[v] w fun r w' => r = .returned (trip (showR l)) ∧ Below w.heap.size w w' := by
  obtain ⟨a, cap, rfl, hc, hm, hat⟩ := Rv.RvAt.parts ev8 hv
  have HV := Lib.hid hat
  clear hat hv
  obtain ⟨i0, hi, hz0, hz1, hz2⟩ := info_parts (show (Tryd.prog.info? 5).map (fun i => (i.zero, i.size, i.bytes)) = some (some (.int .u8 0), 1, 1) by kernel_rfl)
  by_cases hbig : 4000 < l.length
  · have hb' : (4000 : Int) < (l.length : Int) := by omega
    have HS : Hid (showR l = ([], 0, 1)) := by unfold Hid showR; rw [if_pos hbig]
    go_enter Tryd.func11, Tryd.ntmps11
    go_wp2
    refine bodyPost_ret (v := .tuple #[.string ⟨#[]⟩, .int .i64 0, .int .i64 1]) (by simp [results, Tryd.results11, go_sem]) rfl ?_
    exact ⟨by rw [HS.out]; rfl, Below.refl _ _⟩
  · have hb' : ¬ (4000 : Int) < (l.length : Int) := by omega
    have HS : Hid (showR l = showB l (badAt 0 l)) := by unfold Hid showR; rw [if_neg hbig]
    go_enter Tryd.func11, Tryd.ntmps11
    go_wp2
    go_loopw [5, 6] (fun o i wr => ∃ (k m c' : Nat) (p' : Option Addr), k ≤ l.length ∧ i = .int .i64 k ∧ o = .slice p' m c' ∧ Hid (m = (shown (l.take k)).length) ∧ Hid (badAt 0 l = badAt k (l.drop k) ∧ (∀ e ∈ l.take k, fault e = 0) ∧ wr.ownsRow w.heap.size 5 1 (.slice p' m c') m (Lib.byteCells (shown (l.take k)))) ∧ Below w.heap.size w wr) (fun _ i _ => l.length - (intOf i).toNat)
    case atStart => exact ⟨0, 0, 0, none, Nat.zero_le _, rfl, rfl, rfl, ⟨rfl, by simp, World.ownsRow_nil _ _ _ _⟩, Below.refl _ _⟩
    case round =>
      obtain ⟨k, m, c', p', hk, rfl, rfl, hmm, HI, hbel⟩ := hrel
      by_cases hlt : k < l.length
      · have hkI : (k : Int) < (l.length : Int) := by omega
        obtain ⟨b, off, rfl, hb, hcell⟩ := HV.out k hlt
        have hcc : ∀ j, j < 8 → wr.cell? ⟨b, off + k * 8 + j, none⟩ = (evV l[k])[j]? := fun j hj => by rw [hbel.cell (p := ⟨b, off + k * 8 + j, none⟩) hb]; exact hcell j hj
        have hdrop : l.drop k = l[k] :: l.drop (k + 1) := List.drop_eq_getElem_cons hlt
        have HT := Lib.hid (And.intro hdrop (And.intro (take_next hlt) (And.intro hcc hb)))
        have c0 : wr.cell? ⟨b, off + k * 8, none⟩ = some (.int .i64 l[k].kind) := hcc 0 (by omega)
        have c1 : wr.cell? ⟨b, off + k * 8 + 1, none⟩ = some (.int .i64 l[k].key) := hcc 1 (by omega)
        have c2 : wr.cell? ⟨b, off + k * 8 + 2, none⟩ = some (.int .i64 l[k].slot) := hcc 2 (by omega)
        have c3 : wr.cell? ⟨b, off + k * 8 + 3, none⟩ = some (.int .i64 l[k].gen) := hcc 3 (by omega)
        have c4 : wr.cell? ⟨b, off + k * 8 + 4, none⟩ = some (.bool l[k].good) := hcc 4 (by omega)
        have c5 : wr.cell? ⟨b, off + k * 8 + 5, none⟩ = some (.int .i64 l[k].req) := hcc 5 (by omega)
        have c6 : wr.cell? ⟨b, off + k * 8 + 6, none⟩ = some (.int .i64 l[k].be) := hcc 6 (by omega)
        have c7 : wr.cell? ⟨b, off + k * 8 + 7, none⟩ = some (.int .i64 l[k].wt) := hcc 7 (by omega)
        clear hdrop hcc hcell
        generalize l[k] = e at *
        go_wp2_with fail
        refine (fault_any e wr).mono ?_
        rintro r w1 ⟨rfl, hb1⟩
        have hB1 := hbel.trans (hb1.mono hbel.size)
        by_cases hf : fault e = 0
        · rw [hf]
          have HF := Lib.hid hf
          have hdd : ∀ j, j < 8 → w1.cell? ⟨b, off + k * 8 + j, none⟩ = (evV e)[j]? := fun j hj => by rw [hb1.cell (p := ⟨b, off + k * 8 + j, none⟩) (Nat.lt_of_lt_of_le HT.out.2.2.2 hbel.size)]; exact HT.out.2.2.1 j hj
          have d0 : w1.cell? ⟨b, off + k * 8, none⟩ = some (.int .i64 e.kind) := hdd 0 (by omega)
          have d1 : w1.cell? ⟨b, off + k * 8 + 1, none⟩ = some (.int .i64 e.key) := hdd 1 (by omega)
          have d2 : w1.cell? ⟨b, off + k * 8 + 2, none⟩ = some (.int .i64 e.slot) := hdd 2 (by omega)
          have d3 : w1.cell? ⟨b, off + k * 8 + 3, none⟩ = some (.int .i64 e.gen) := hdd 3 (by omega)
          have d4 : w1.cell? ⟨b, off + k * 8 + 4, none⟩ = some (.bool e.good) := hdd 4 (by omega)
          have d5 : w1.cell? ⟨b, off + k * 8 + 5, none⟩ = some (.int .i64 e.req) := hdd 5 (by omega)
          have d6 : w1.cell? ⟨b, off + k * 8 + 6, none⟩ = some (.int .i64 e.be) := hdd 6 (by omega)
          have d7 : w1.cell? ⟨b, off + k * 8 + 7, none⟩ = some (.int .i64 e.wt) := hdd 7 (by omega)
          clear hf hdd
          go_wp2_with fail
          refine (evLine_any e w1 HF.out).mono ?_
          rintro r w2 ⟨rfl, hb2⟩
          have hB2 := hB1.trans (hb2.mono hB1.size)
          have ho2 := own_kept (own_kept HI.out.2.2 hb1) hb2
          have hlen := shown_len _ HI.out.2.1
          have hln := line_len HF.out
          have hlb : (lineB e).length = (lineN e).length + 1 := by unfold lineB; simp
          have hkl : (l.take k).length ≤ 4000 := by rw [List.length_take]; omega
          have hmo := hmm.out
          have hnew : Lib.byteCells (shown (l.take k)) ++ Lib.byteCells (lineN e) ++ [.int .u8 10] = Lib.byteCells (shown (l.take k ++ [e])) := by
            rw [show shown (l.take k ++ [e]) = shown (l.take k) ++ lineN e ++ [10] by simp [shown, lineB], Lib.byteCells_append, Lib.byteCells_append]; rfl
          have HN := Lib.hid (And.intro hnew (And.intro hB2 hlb))
          have hmn : m + (lineN e).length + 1 = (shown (l.take k ++ [e])).length := by
            rw [show shown (l.take k ++ [e]) = shown (l.take k) ++ lineN e ++ [10] by simp [shown, lineB]]; simp; omega
          have HMN := Lib.hid hmn
          have hszl : (⟨(lineN e).toArray⟩ : ByteArray).size = (lineN e).length := by simp [ByteArray.size]
          have hmb : m ≤ 180000 := by omega
          have hnb : (lineN e).length ≤ 45 := by omega
          clear hnew hmn hmo hlb
          go_wp2_with (at_builtin; first | (refine Lib.wpList_append_own_string _ rfl _ _ 44 9 rfl w.heap.size 5 i0 Tryd.underlying44 Tryd.underlying9 hi hz0 hz1 hz2 _ _ _ rfl ho2 ⟨(lineN e).toArray⟩ rfl ?c3 ?c4 ?c5 ?_))
          case c3 => rw [hszl]; unfold maxLen; omega
          case c4 => rw [hszl]; omega
          case c5 => exact hB2.size
          intro v3 w3 hown3 hg3 _
          have hB3 : Below w.heap.size w w3 := hB2.grown hg3 hB2.size (fun j hj => (ho2.lt j hj).1)
          have hst : Lib.strCells ⟨(lineN e).toArray⟩ = Lib.byteCells (lineN e) := rfl
          rw [hst] at hown3
          obtain ⟨m1, hm1⟩ : ∃ m1, m1 = m + (lineN e).length := ⟨_, rfl⟩
          try simp only [hszl] at hown3
          rw [← hm1] at hown3
          obtain ⟨p3, c3', rfl⟩ := Rv.own_form hown3
          have hm1b : m1 ≤ 200000 := by omega
          have HO3 := Lib.hid (And.intro hown3 (And.intro hB3 hm1))
          clear hown3 hB3 hm1 hg3 ho2 hst
          go_wp2_with (at_builtin; first | (refine wpList_append_own _ rfl _ _ 44 rfl w.heap.size 5 i0 (.int .u8 0) 1 1 Tryd.underlying44 hi hz0 hz1 hz2 rfl (by decide) (.slice p3 m1 c3') m1 (Lib.byteCells (shown (l.take k)) ++ Lib.byteCells (lineN e)) rfl (HO3.out.1.alloc _) ⟨w3.heap.size, 0, none⟩ 1 1 [.int .u8 10] rfl rfl (Rv.news_at _ _ _) (by intro u hu; rw [List.mem_singleton.1 hu]; rfl) (by unfold maxLen; omega) (by omega) (by have := HO3.out.2.1.size; simp; omega) ?_; intro v4 w4 hown4 hg4 _; obtain ⟨p4, c4', rfl⟩ := Rv.own_form hown4))
          have hbA := HO3.out.2.1.alloc HO3.out.2.1.size (.cells #[.int .u8 10] 5)
          have hB4 : Below w.heap.size w w4 := hbA.grown hg4 hbA.size (fun j hj => (HO3.out.1.lt j hj).1)
          rw [HN.out.1] at hown4
          have HO4 := Lib.hid (And.intro hown4 hB4)
          clear hown4 hB4 hg4 hbA
          go_wp2
          go_roundw
          case rel =>
            refine ⟨k + 1, m1 + 1, c4', _, by omega, by go_num, rfl, ?_, ⟨?_, ?_, ?_⟩, HO4.out.2⟩
            · show m1 + 1 = _; rw [HT.out.2.1, ← HMN.out, HO3.out.2.2]
            · rw [HI.out.1, HT.out.1, badAt, if_pos HF.out]
            · intro y hy
              rw [HT.out.2.1] at hy
              rcases List.mem_append.1 hy with hy | hy
              · exact HI.out.2.1 y hy
              · simp at hy; subst hy; exact HF.out
            · rw [HT.out.2.1]; exact HO4.out.1
          case measure => simp [intOf]; omega
        · have hne : (fault e == 0) = false := beq_eq_false_iff_ne.2 hf
          have HF := Lib.hid hf
          clear hf
          go_wp2
          refine bodyPost_ret (v := .tuple #[.string ⟨#[]⟩, .int .i64 k, .int .i64 (fault e)]) (by simp [results, Tryd.results11, go_sem]) rfl ?_
          refine ⟨?_, hB1⟩
          rw [HS.out, HI.out.1, HT.out.1, badAt, if_neg HF.out]; rfl
      · have : k = l.length := by omega
        subst this
        have hkI : ¬ (l.length : Int) < (l.length : Int) := by omega
        have HI' := HI.out
        rw [List.take_length, List.drop_length] at HI'
        have hmo := hmm.out
        rw [List.take_length] at hmo
        have hcv := conv_own HI'.2.2 hmo
        have HJ := Lib.hid (And.intro HI'.1 hbel)
        clear HI' HI hmo hmm
        go_wp2
        refine bodyPost_ret (v := .tuple #[.string ⟨(shown l).toArray⟩, .int .i64 0, .int .i64 0]) (by simp [results, Tryd.results11, go_sem]) rfl ?_
        exact ⟨by rw [HS.out, HJ.out.1]; rfl, HJ.out.2⟩

set_option maxHeartbeats 2000000 in
theorem events_any (v : Value) (l : List Ev) (w : World) (hv : EsAt w v l) (hl : l.length * 64 ≤ 140737488355328) :
    Calls Tryd.prog 9 #[v] w fun r w' => ∃ p c, r = .returned (.slice p l.length c) ∧ EsAt w' (.slice p l.length c) l ∧ Below w.heap.size w w' := by
  obtain ⟨pa, ca, rfl, hca, hma⟩ := Rv.RvAt.form hv
  obtain ⟨p, c', w', hr, ho, hb⟩ := Rv.append_copyV ev8 ev1 (by decide) Tryd.underlying22 infoEv rfl w 22 _ l hv hl (by unfold maxLen; omega)
  have HR : Hid (_ ∧ _ ∧ _) := ⟨hr, ho, hb⟩
  clear hr ho hb hv
  go_enter Tryd.func9, Tryd.ntmps9
  go_wp2_with (at_builtin; (with_reducible refine Rv.wpList_append_eq rfl _ _ 22 rfl (.slice none 0 0) (.slice pa l.length ca) (.slice p l.length c') w' ?hs ?hx ?hr ?_); (case hs => rfl); (case hx => rfl); (case hr => exact HR.out.1))
  go_ret
  exact ⟨p, c', rfl, Rv.rvAt_own HR.out.2.1, HR.out.2.2⟩

set_option maxHeartbeats 4000000 in
set_option maxRecDepth 100000 in
theorem sameEvents_any (u v : Value) (l : List Ev) (w : World) (hu : EsAt w u l) (hv : EsAt w v l) :
    Calls Tryd.prog 12 #[u, v] w fun r w' => r = .returned (.bool true) ∧ Below w.heap.size w w' := by
  obtain ⟨a, ca, rfl, hca, hma, pa⟩ := Rv.RvAt.parts ev8 hu
  obtain ⟨b, cb, rfl, hcb, hmb, pb⟩ := Rv.RvAt.parts ev8 hv
  unfold maxLen at hma hmb
  clear hu hv
  go_enter Tryd.func12, Tryd.ntmps12
  go_wp2
  go_loopw [5] (fun i wr => ∃ k q : Nat, i = .int .i64 k ∧ k ≤ l.length ∧ wr = w.drewN q) (fun i _ => l.length - (intOf i).toNat)
  case atStart => exact ⟨0, 0, rfl, Nat.zero_le _, rfl⟩
  case round =>
    obtain ⟨k, q, rfl, hk, rfl⟩ := hrel
    by_cases hlt : k < l.length
    · obtain ⟨b1, o1, rfl, hb1, m1⟩ := pa k hlt
      obtain ⟨b2, o2, rfl, hb2, m2⟩ := pb k hlt
      have c0 := m1 0 (by omega); have c1 := m1 1 (by omega); have c2 := m1 2 (by omega); have c3 := m1 3 (by omega); have c4 := m1 4 (by omega); have c5 := m1 5 (by omega); have c6 := m1 6 (by omega); have c7 := m1 7 (by omega)
      have d0 := m2 0 (by omega); have d1 := m2 1 (by omega); have d2 := m2 2 (by omega); have d3 := m2 3 (by omega); have d4 := m2 4 (by omega); have d5 := m2 5 (by omega); have d6 := m2 6 (by omega); have d7 := m2 7 (by omega)
      generalize l[k] = E at *
      simp only [evV, List.getElem?_cons_zero, List.getElem?_cons_succ, Nat.add_zero] at c0 c1 c2 c3 c4 c5 c6 c7 d0 d1 d2 d3 d4 d5 d6 d7
      clear hb1 hb2 m1 m2 pa pb
      have hkI : (k : Int) < (l.length : Int) := by omega
      have hkd : decide ((k : Int) < (l.length : Int)) = true := decide_eq_true hkI
      go_wp2
      go_region
      go_wp2
      go_roundw
      case rel => exact ⟨k + 1, q + 1, by simp, hlt, rfl⟩
      case measure => simp [intOf]; omega
    · obtain rfl : k = l.length := by omega
      clear pa pb
      go_wp2
      go_ret
      exact ⟨rfl, Rv.below_drewN (Below.refl _ _) q⟩

set_option maxHeartbeats 2000000 in
theorem shows_law (v : Value) (l : List Ev) (wf : True) (hl : l.length * 64 ≤ 140737488355328) (w : World) (hG : Gs w) (hv : EsAt w v l) : Calls Tryd.prog 3 #[v] w fun r w' => r = .returned (.bool true) ∧ Below w.heap.size w w' := by
  have h9 := hG.2.2
  obtain ⟨pa, ca, rfl, hca, hma⟩ := Rv.RvAt.form hv
  have HH := Lib.hid (And.intro hG hv)
  clear hG hv
  obtain ⟨X, hX⟩ : ∃ X, X = showR l := ⟨_, rfl⟩
  have HX := Lib.hid hX
  clear hX
  go_enter Tryd.func3, Tryd.ntmps3
  go_wp2_with fail
  refine (events_any _ l w HH.out.2 hl).mono ?_
  rintro r w1 ⟨p, c, rfl, hc1, hb1⟩
  have HC := Lib.hid (And.intro hc1 hb1)
  clear hc1 hb1
  go_wp2_with fail
  refine (show_any _ l w1 (HH.out.1.below HC.out.2 h9) HC.out.1).mono ?_
  rintro r w2 ⟨rfl, hb2⟩
  rw [← HX.out]
  unfold trip
  have HB2 := Lib.hid (HC.out.2.trans (hb2.mono HC.out.2.size))
  have hc2 := HC.out.1.below hb2
  have HC2 := Lib.hid hc2
  clear hb2 hc2
  go_wp2_with fail
  refine (evsShown_any _ l w2 (HH.out.2.below HB2.out)).mono ?_
  rintro r w3 ⟨rfl, hb3⟩
  rw [← HX.out]
  unfold trip
  have HB3 := Lib.hid (HB2.out.trans (hb3.mono HB2.out.size))
  have HC3 := Lib.hid (HC2.out.below hb3)
  clear hb3
  go_wp2_with fail
  refine (sameEvents_any _ _ l w3 HC3.out (HH.out.2.below HB3.out)).mono ?_
  rintro r w4 ⟨rfl, hb4⟩
  have HB4 := Lib.hid (HB3.out.trans (hb4.mono HB3.out.size))
  clear hb4
  go_wp2
  go_ret
  exact ⟨rfl, HB4.out⟩
end Go.Proofs.YtkefdbnnfcfmjaaDoor.Walks
