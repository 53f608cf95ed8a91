/-
  The document's ByBackend. Condition: the outputs can be read.
-/
import Derived.Test.YthfadekfobceaaaRefT
import Derived.Test.YthfadekfobceaaaBy
import Derived.WalkKit
import Derived.ProofKit
import Derived.Handy
import Derived.LoopTactic
import Derived.Below
import Derived.Laws.BitsAllLaws
import Derived.RegionTactic
import Derived.Deep.RegionHeld3
import Derived.Deep.DrawnRows
import Derived.Deep.AppendLies
import Derived.Laws.OwnMore
import Derived.Deep.Onto
import Derived.Deep.QuietTactic
import Derived.BigQuiet
namespace Go.Proofs.Ythfadekfobceaaa.Walks
open Go.RowKit
set_option linter.unusedVariables false
set_option linter.unusedSimpArgs false
attribute [local go_sem ↓] Go.wp_at_zero Go.wp_at_succ

/-- Counts of those that lie ahead of a place. -/
def byI (l : List Ou) (i : Nat) : List Int := (List.range 12).map fun b : Nat => (((lasts l).countP (fun o => o.be == (b : Int)) : Nat) : Int) - (((lasts (l.drop i)).countP (fun o => o.be == (b : Int)) : Nat) : Int)

theorem byI_len (l : List Ou) (i : Nat) : (byI l i).length = 12 := by simp [byI]

theorem byI_zero (l : List Ou) : byI l 0 = List.replicate 12 0 := by
  apply List.ext_getElem
  · simp [byI]
  · intro j h1 h2
    rw [List.getElem_replicate]
    simp [byI]

theorem byI_end (l : List Ou) : byI l l.length = byL l := by
  unfold byI byL
  simp [lasts]

theorem byI_at (l : List Ou) (i b : Nat) (hb : b < 12) : (byI l i)[b]'(by rw [byI_len]; exact hb) = (((lasts l).countP (fun o => o.be == (b : Int)) : Nat) : Int) - (((lasts (l.drop i)).countP (fun o => o.be == (b : Int)) : Nat) : Int) := by simp [byI]

theorem drop_at {l : List Ou} {i : Nat} (hi : i < l.length) {x : Ou} (hx : x = l[i]) : l.drop i = x :: l.drop (i + 1) := by
  rw [List.drop_eq_getElem_cons hi, hx]

theorem byI_no {l : List Ou} {i : Nat} {x : Ou} (h : l.drop i = x :: l.drop (i + 1)) (hc : (isUp x && !((l.drop (i + 1)).any (word x.slot x.gen))) = false) : byI l (i + 1) = byI l i := by
  unfold byI
  rw [h, lasts, if_neg (by rw [hc]; simp)]

theorem byI_yes {l : List Ou} {i : Nat} {x : Ou} (h : l.drop i = x :: l.drop (i + 1)) (hc : (isUp x && !((l.drop (i + 1)).any (word x.slot x.gen))) = true) (b : Nat) (hb : x.be = (b : Int)) (hb12 : b < 12) : byI l (i + 1) = (byI l i).set b ((((lasts l).countP (fun o => o.be == (b : Int)) : Nat) : Int) - (((lasts (l.drop i)).countP (fun o => o.be == (b : Int)) : Nat) : Int) + 1) := by
  have hl : lasts (l.drop i) = x :: lasts (l.drop (i + 1)) := by rw [h, lasts, if_pos hc]
  apply List.ext_getElem
  · simp [byI]
  · intro j h1 h2
    rw [byI_len] at h1
    rw [byI_at _ _ _ h1, List.getElem_set, byI_at _ _ _ h1, hl, List.countP_cons, List.countP_cons, hb]
    by_cases e : b = j
    · subst e
      simp
      omega
    · rw [if_neg e]
      have : ¬ ((b : Int) = (j : Int)) := by omega
      simp [this]

theorem lasts_drop_le (l : List Ou) (i : Nat) (b : Int) : (lasts (l.drop i)).countP (fun o => o.be == b) ≤ (lasts l).countP (fun o => o.be == b) := by
  induction l generalizing i with
  | nil => simp
  | cons o l ih =>
    cases i with
    | zero => simp
    | succ i =>
      have := ih i
      simp only [List.drop_succ_cons]
      refine Nat.le_trans this ?_
      conv => rhs; unfold lasts
      split
      · rw [List.countP_cons]; omega
      · exact Nat.le_refl _

theorem word_snoc {l : List Ou} {i k : Nat} {s g : Int} {y : Ou} (hik : i + 1 ≤ k) (hk : k < l.length) (hy : y = l[k]) : ((l.drop (i + 1)).take (k + 1 - (i + 1))).any (word s g) = (((l.drop (i + 1)).take (k - (i + 1))).any (word s g) || word s g y) := by
  have hlt : k - (i + 1) < (l.drop (i + 1)).length := by rw [List.length_drop]; omega
  rw [show k + 1 - (i + 1) = (k - (i + 1)) + 1 by omega, List.take_succ_eq_append_getElem hlt, List.any_append]
  have : (l.drop (i + 1))[k - (i + 1)] = y := by
    rw [hy, List.getElem_drop]
    congr 1
    omega
  rw [this]
  simp

set_option maxHeartbeats 8000000 in
set_option maxRecDepth 100000 in
theorem byBackend_any (v : Value) (l : List Ou) (w : World) (hv : OsAt w v l) :
    Calls Try.prog 20 #[v] w (ByRes (byO l) w) := by
  obtain ⟨p, c, rfl, hc, hm, pv⟩ := OsAt.parts hv
  unfold maxLen at hm
  have HV : Hid (_ ∧ _) := ⟨hv, pv⟩
  clear hv pv
  obtain ⟨z12, hz12⟩ : ∃ z, z = (icells (List.replicate 12 0)).toArray := ⟨_, rfl⟩
  have hmk : ∀ W, (Instr.makeSlice 40 (.int .i64 12) (.int .i64 12)).run Try.prog W = .ok (.slice (some ⟨W.heap.size, 0, none⟩) 12 12) (W.alloc (.cells z12 3)) := by rw [hz12]; exact made12
  have HZ : Hid _ := hz12
  clear hz12
  obtain ⟨O, hO⟩ : ∃ O, O = byO l := ⟨_, rfl⟩
  rw [← hO]
  have HO : Hid _ := hO
  clear hO
  go_enter Try.func20, Try.ntmps20
  go_wp2_with fail
  refine (tallyFault_any _ l _ HV.out.1).mono ?_
  rintro r w1 ⟨rfl, rfl⟩
  cases hbad : anyBad l
  · rw [if_neg Bool.false_ne_true]
    have HB : Hid _ := hbad
    clear hbad
    go_wp2
    go_loopw [5] (fun i wr => ∃ k : Nat, i = .int .i64 k ∧ k ≤ l.length ∧ anyBadB (l.take k) = false ∧ w1 = wr) (fun i _ => l.length - (intOf i).toNat)
    case atStart => exact ⟨0, rfl, Nat.zero_le _, by simp [anyBadB], rfl⟩
    case round =>
      obtain ⟨k, rfl, hk, hall, rfl⟩ := hrel
      by_cases hlt : k < l.length
      · obtain ⟨b0, off, rfl, hb0', c1, c2, c3, c4, c5, c6, c7⟩ := HV.out.2 k hlt
        obtain ⟨⟨kd, sl, gn, be, rq, cd, wy⟩, hx⟩ : ∃ x, x = l[k] := ⟨_, rfl⟩
        have htk := take_snoc hlt hx
        have hmem : (⟨kd, sl, gn, be, rq, cd, wy⟩ : Ou) ∈ l := by rw [hx]; exact List.getElem_mem hlt
        rw [← hx] at c4
        dsimp only at c4
        have hltI : (k : Int) < (l.length : Int) := by omega
        have HX : Hid (_ ∧ _ ∧ _) := ⟨htk, hmem, hall⟩
        clear htk hmem hall hx c1 c2 c3 c5 c6 c7 hb0'
        by_cases h1 : 0 ≤ be ∧ be ≤ 11
        · go_wp2_with fail
          refine (in_any be 0 11 _).mono ?_
          rintro r w2 ⟨rfl, rfl⟩
          rw [decide_eq_true h1]
          go_wp2
          go_roundw
          case rel =>
            refine ⟨k + 1, by simp, hlt, ?_, trivial⟩
            rw [HX.out.1]
            have hb : badB ⟨kd, sl, gn, be, rq, cd, wy⟩ = false := by simp [badB]; omega
            have := HX.out.2.2
            simp only [anyBadB, List.any_append, List.any_cons, List.any_nil, hb, Bool.or_false] at this ⊢
            exact this
          case measure => simp [intOf]; omega
        · have HE : Hid (O = ([], 2)) := by
            show O = _
            rw [HO.out]
            unfold byO
            rw [HB.out, if_neg Bool.false_ne_true, if_pos]
            exact List.any_eq_true.2 ⟨_, HX.out.2.1, by simp [badB]; omega⟩
          clear hmk
          go_wp2_with fail
          refine (in_any be 0 11 _).mono ?_
          rintro r w2 ⟨rfl, rfl⟩
          rw [decide_eq_false h1]
          go_wp2
          go_ret2
          rw [HE.out]
          exact ⟨none, 0, rfl, inAt_nil _, Below.refl _ _⟩
      · have hkd : ¬ ((k : Int) < (l.length : Int)) := by omega
        have hbb : anyBadB l = false := by rw [List.take_of_length_le (by omega)] at hall; exact hall
        have HE : Hid (O = (byL l, 0)) := by
          show O = _
          rw [HO.out]
          unfold byO
          rw [HB.out, hbb]
          rfl
        have HBB : Hid _ := hbb
        clear hall hbb
        go_wp2
        obtain ⟨W3, hW3⟩ : ∃ W3, W3 = w1.alloc (.cells z12 3) := ⟨_, rfl⟩
        have hb3 : Below w1.heap.size w1 W3 := by rw [hW3]; exact below_new w1
        have hA3 : Arr 3 12 W3 w1.heap.size (byI l 0) := by rw [hW3, HZ.out, byI_zero]; exact ⟨heap_alloc_new _ _, by simp⟩
        rw [← hW3]
        have H3 : Hid (_ ∧ _) := ⟨hb3, hA3⟩
        clear hb3 hA3 hW3 hmk
        go_loopw [7] (fun t wr => ∃ i : Nat, t = .int .i64 i ∧ i ≤ l.length ∧ Below w1.heap.size w1 wr ∧ Arr 3 12 wr w1.heap.size (byI l i)) (fun t _ => l.length - (intOf t).toNat)
        case atStart => exact ⟨0, rfl, Nat.zero_le _, H3.out.1, H3.out.2⟩
        case round =>
          obtain ⟨i, rfl, hi, hb, hA⟩ := hrel
          by_cases hlt : i < l.length
          · obtain ⟨b0, off, hpp, hb0', c1, c2, c3, c4, c5, c6, c7⟩ := HV.out.2 i hlt
            subst hpp
            obtain ⟨⟨kd, sl, gn, be, rq, cd, wy⟩, hx⟩ : ∃ x, x = l[i] := ⟨_, rfl⟩
            have hdr := drop_at hlt hx
            have hob := badB_not (anyBadB_at HBB.out (List.getElem_mem hlt))
            rw [← hx] at c1 c2 c3 c4 hob
            dsimp only at c1 c2 c3 c4 hob
            have hltI : (i : Int) < (l.length : Int) := by omega
            have e1 := (hb.cell (p := ⟨b0, off + i * 7, none⟩) hb0').trans c1
            have e2 := (hb.cell (p := ⟨b0, off + i * 7 + 1, none⟩) hb0').trans c2
            have e3 := (hb.cell (p := ⟨b0, off + i * 7 + 2, none⟩) hb0').trans c3
            have e4 := (hb.cell (p := ⟨b0, off + i * 7 + 3, none⟩) hb0').trans c4
            have HX : Hid (_ ∧ _ ∧ _ ∧ _ ∧ _ ∧ _ ∧ _) := ⟨hdr, hb, hA, c2, c3, c4, hb0'⟩
            clear hdr hx c5 c6 c7 c1 c2 c3 c4
            by_cases hu : kd = 1 ∨ kd = 5
            · have hup : isUp ⟨kd, sl, gn, be, rq, cd, wy⟩ = true := by simp [isUp]; exact hu
              have HU : Hid _ := hup
              clear hup hb hA e2 e3 e4
              obtain ⟨bN, rfl⟩ := Int.eq_ofNat_of_zero_le hob.1
              have hb12 : bN < 12 := by omega
              have hbI : (bN : Int) < 12 := by omega
              clear hob
              have HE1 : Hid (∀ wr', Below w1.heap.size w1 wr' → wr'.cell? ⟨b0, off + i * 7 + 1, none⟩ = some (.int .i64 sl) ∧ wr'.cell? ⟨b0, off + i * 7 + 2, none⟩ = some (.int .i64 gn) ∧ wr'.cell? ⟨b0, off + i * 7 + 3, none⟩ = some (.int .i64 (bN : Int))) := fun wr' h => ⟨(h.cell (p := ⟨b0, off + i * 7 + 1, none⟩) HX.out.2.2.2.2.2.2).trans HX.out.2.2.2.1, (h.cell (p := ⟨b0, off + i * 7 + 2, none⟩) HX.out.2.2.2.2.2.2).trans HX.out.2.2.2.2.1, (h.cell (p := ⟨b0, off + i * 7 + 3, none⟩) HX.out.2.2.2.2.2.2).trans HX.out.2.2.2.2.2.1⟩
              rcases hu with rfl | rfl
              all_goals
                go_wp2
                clear e1
                go_loopw [8, 9] (fun lt t wv => ∃ (k2 : Nat) (bb : Bool), t = .int .i64 k2 ∧ i + 1 ≤ k2 ∧ k2 ≤ l.length ∧ lt = .bool bb ∧ Hid (bb = !((l.drop (i + 1)).take (k2 - (i + 1))).any (word sl gn)) ∧ Below w1.heap.size w1 wv ∧ Arr 3 12 wv w1.heap.size (byI l i)) (fun _ t _ => l.length - (intOf t).toNat)
                case atStart => exact ⟨i + 1, true, by simp, Nat.le_refl _, hlt, rfl, by show _ = _; simp, HX.out.2.1, HX.out.2.2.1⟩
                case round =>
                  obtain ⟨k2, bb, rfl, hik, hk2, rfl, hbb, hb2, hA2⟩ := hrel
                  by_cases hlt2 : k2 < l.length
                  · obtain ⟨b2, o2, hpp, hb2', q1, q2, q3, q4, q5, q6, q7⟩ := HV.out.2 k2 hlt2
                    injection hpp with hpp
                    injection hpp with hp1 hp2
                    subst hp1 hp2
                    have d1 := (hb2.cell (p := ⟨b0, off + k2 * 7, none⟩) hb2').trans q1
                    have d2 := (hb2.cell (p := ⟨b0, off + k2 * 7 + 1, none⟩) hb2').trans q2
                    have d3 := (hb2.cell (p := ⟨b0, off + k2 * 7 + 2, none⟩) hb2').trans q3
                    have d4 := (hb2.cell (p := ⟨b0, off + k2 * 7 + 3, none⟩) hb2').trans q4
                    have d5 := (hb2.cell (p := ⟨b0, off + k2 * 7 + 4, none⟩) hb2').trans q5
                    have d6 := (hb2.cell (p := ⟨b0, off + k2 * 7 + 5, none⟩) hb2').trans q6
                    have d7 := (hb2.cell (p := ⟨b0, off + k2 * 7 + 6, none⟩) hb2').trans q7
                    obtain ⟨⟨yk, ys, yg, yb, yr, yc, yw⟩, hy⟩ : ∃ y, y = l[k2] := ⟨_, rfl⟩
                    have hws := word_snoc (s := sl) (g := gn) hik hlt2 hy
                    rw [← hy] at d1 d2 d3 d4 d5 d6 d7
                    dsimp only at d1 d2 d3 d4 d5 d6 d7
                    have hkI : (k2 : Int) < (l.length : Int) := by omega
                    obtain ⟨W1, hW1⟩ : ∃ W1, W1 = wr.alloc (ouO ⟨yk, ys, yg, yb, yr, yc, yw⟩) := ⟨_, rfl⟩
                    have hbn : Below wr.heap.size wr W1 := by rw [hW1]; exact below_new wr
                    have hX : W1.heap[wr.heap.size]? = some (ouO ⟨yk, ys, yg, yb, yr, yc, yw⟩) := by rw [hW1]; exact heap_alloc_new _ _
                    obtain ⟨k0, k1, k2', k3, k4, k5, k6, klt⟩ := ou_cells hX
                    have hb1 := hb2.trans (hbn.mono hb2.size)
                    obtain ⟨f2, f3, _⟩ := HE1.out W1 hb1
                    have HW : Hid (_ ∧ (_ ∧ _) ∧ _ ∧ _) := ⟨hW1, ⟨hb1, hA2.below hbn⟩, hbb.out, hws⟩
                    clear hW1 hbn hX hb1 hb2 hA2 hbb hws hy q1 q2 q3 q4 q5 q6 q7 hb2'
                    by_cases hs : ys = sl
                    · by_cases hg : yg = gn
                      · subst hs hg
                        by_cases h1 : yk = 1
                        · subst h1
                          have HD : Hid (word ys yg ⟨1, ys, yg, yb, yr, yc, yw⟩ = true) := by show _ = _; simp [word, isUp, isDown]
                          go_wp2
                          rw [← HW.out.1]
                          refine wp_region_quiet_lit (by kernel_rfl) (by kernel_rfl) ?_
                          repeat (first | go_big_quiet_skip | quiet_step (fail))
                          refine wpQuiet_nil ?_
                          intro _ hw'
                          obtain ⟨nq, hw''⟩ := hw'
                          subst hw''
                          clear k0 k1 k2' k3 k4 k5 k6 d1 d2 d3 d4 d5 d6 d7 f2 f3
                          go_wp2
                          go_roundw
                          case rel => exact ⟨k2 + 1, false, by simp, by omega, hlt2, rfl, by show _ = _; rw [HW.out.2.2.2, HD.out, Bool.or_true]; rfl, below_drewN HW.out.2.1.1 nq, HW.out.2.1.2.below (below_drewN (Below.refl _ _) nq)⟩
                          case measure => simp [intOf]; omega

                        · by_cases h5 : yk = 5
                          · subst h5
                            have HD : Hid (word ys yg ⟨5, ys, yg, yb, yr, yc, yw⟩ = true) := by show _ = _; simp [word, isUp, isDown]
                            go_wp2
                            rw [← HW.out.1]
                            refine wp_region_quiet_lit (by kernel_rfl) (by kernel_rfl) ?_
                            repeat (first | go_big_quiet_skip | quiet_step (fail))
                            refine wpQuiet_nil ?_
                            intro _ hw'
                            obtain ⟨nq, hw''⟩ := hw'
                            subst hw''
                            clear k0 k1 k2' k3 k4 k5 k6 d1 d2 d3 d4 d5 d6 d7 f2 f3
                            go_wp2
                            go_roundw
                            case rel => exact ⟨k2 + 1, false, by simp, by omega, hlt2, rfl, by show _ = _; rw [HW.out.2.2.2, HD.out, Bool.or_true]; rfl, below_drewN HW.out.2.1.1 nq, HW.out.2.1.2.below (below_drewN (Below.refl _ _) nq)⟩
                            case measure => simp [intOf]; omega

                          · by_cases h6 : yk = 6
                            · subst h6
                              have HD : Hid (word ys yg ⟨6, ys, yg, yb, yr, yc, yw⟩ = true) := by show _ = _; simp [word, isUp, isDown]
                              go_wp2
                              rw [← HW.out.1]
                              refine wp_region_quiet_lit (by kernel_rfl) (by kernel_rfl) ?_
                              repeat (first | go_big_quiet_skip | quiet_step (fail))
                              refine wpQuiet_nil ?_
                              intro _ hw'
                              obtain ⟨nq, hw''⟩ := hw'
                              subst hw''
                              clear k0 k1 k2' k3 k4 k5 k6 d1 d2 d3 d4 d5 d6 d7 f2 f3
                              go_wp2
                              go_roundw
                              case rel => exact ⟨k2 + 1, false, by simp, by omega, hlt2, rfl, by show _ = _; rw [HW.out.2.2.2, HD.out, Bool.or_true]; rfl, below_drewN HW.out.2.1.1 nq, HW.out.2.1.2.below (below_drewN (Below.refl _ _) nq)⟩
                              case measure => simp [intOf]; omega

                            · by_cases h7 : yk = 7
                              · subst h7
                                have HD : Hid (word ys yg ⟨7, ys, yg, yb, yr, yc, yw⟩ = true) := by show _ = _; simp [word, isUp, isDown]
                                go_wp2
                                rw [← HW.out.1]
                                refine wp_region_quiet_lit (by kernel_rfl) (by kernel_rfl) ?_
                                repeat (first | go_big_quiet_skip | quiet_step (fail))
                                refine wpQuiet_nil ?_
                                intro _ hw'
                                obtain ⟨nq, hw''⟩ := hw'
                                subst hw''
                                clear k0 k1 k2' k3 k4 k5 k6 d1 d2 d3 d4 d5 d6 d7 f2 f3
                                go_wp2
                                go_roundw
                                case rel => exact ⟨k2 + 1, false, by simp, by omega, hlt2, rfl, by show _ = _; rw [HW.out.2.2.2, HD.out, Bool.or_true]; rfl, below_drewN HW.out.2.1.1 nq, HW.out.2.1.2.below (below_drewN (Below.refl _ _) nq)⟩
                                case measure => simp [intOf]; omega

                              · have HD : Hid (word ys yg ⟨yk, ys, yg, yb, yr, yc, yw⟩ = false) := by show _ = _; simp [word, isUp, isDown, h1, h5, h6, h7]
                                have b1 : (yk == 1) = false := by simpa using h1
                                have b5 : (yk == 5) = false := by simpa using h5
                                have b6 : (yk == 6) = false := by simpa using h6
                                have b7 : (yk == 7) = false := by simpa using h7
                                go_wp2
                                rw [← HW.out.1]
                                refine wp_region_quiet_lit (by kernel_rfl) (by kernel_rfl) ?_
                                repeat (first | go_big_quiet_skip | quiet_step (fail))
                                refine wpQuiet_nil ?_
                                intro _ hw'
                                obtain ⟨nq, hw''⟩ := hw'
                                subst hw''
                                clear k0 k1 k2' k3 k4 k5 k6 d1 d2 d3 d4 d5 d6 d7 f2 f3
                                go_wp2
                                go_roundw
                                case rel => exact ⟨k2 + 1, bb, by simp, by omega, hlt2, rfl, by show _ = _; rw [HW.out.2.2.2, HD.out, Bool.or_false]; exact HW.out.2.2.1, below_drewN HW.out.2.1.1 nq, HW.out.2.1.2.below (below_drewN (Below.refl _ _) nq)⟩
                                case measure => simp [intOf]; omega

                      · subst hs
                        have HD : Hid (word ys gn ⟨yk, ys, yg, yb, yr, yc, yw⟩ = false) := by show _ = _; simp [word, hg]
                        go_wp2
                        rw [← HW.out.1]
                        refine wp_region_quiet_lit (by kernel_rfl) (by kernel_rfl) ?_
                        repeat (first | go_big_quiet_skip | quiet_step (fail))
                        refine wpQuiet_nil ?_
                        intro _ hw'
                        obtain ⟨nq, hw''⟩ := hw'
                        subst hw''
                        clear k0 k1 k2' k3 k4 k5 k6 d1 d2 d3 d4 d5 d6 d7 f2 f3
                        go_wp2
                        go_roundw
                        case rel => exact ⟨k2 + 1, bb, by simp, by omega, hlt2, rfl, by show _ = _; rw [HW.out.2.2.2, HD.out, Bool.or_false]; exact HW.out.2.2.1, below_drewN HW.out.2.1.1 nq, HW.out.2.1.2.below (below_drewN (Below.refl _ _) nq)⟩
                        case measure => simp [intOf]; omega

                    · have HD : Hid (word sl gn ⟨yk, ys, yg, yb, yr, yc, yw⟩ = false) := by show _ = _; simp [word, hs]
                      go_wp2
                      rw [← HW.out.1]
                      refine wp_region_quiet_lit (by kernel_rfl) (by kernel_rfl) ?_
                      repeat (first | go_big_quiet_skip | quiet_step (fail))
                      refine wpQuiet_nil ?_
                      intro _ hw'
                      obtain ⟨nq, hw''⟩ := hw'
                      subst hw''
                      clear k0 k1 k2' k3 k4 k5 k6 d1 d2 d3 d4 d5 d6 d7 f2 f3
                      go_wp2
                      go_roundw
                      case rel => exact ⟨k2 + 1, bb, by simp, by omega, hlt2, rfl, by show _ = _; rw [HW.out.2.2.2, HD.out, Bool.or_false]; exact HW.out.2.2.1, below_drewN HW.out.2.1.1 nq, HW.out.2.1.2.below (below_drewN (Below.refl _ _) nq)⟩
                      case measure => simp [intOf]; omega
                  · have hkd2 : ¬ ((k2 : Int) < (l.length : Int)) := by omega
                    have hbe : bb = !((l.drop (i + 1)).any (word sl gn)) := by
                      rw [hbb.out, List.take_of_length_le (by rw [List.length_drop]; omega)]
                    obtain ⟨_, _, f4⟩ := HE1.out wr hb2
                    cases bb
                    · have hN := byI_no HX.out.1 (by rw [HU.out, ← hbe]; rfl)
                      have HN : Hid (_ ∧ _ ∧ _) := ⟨hN, hb2, hA2⟩
                      clear hN hb2 hA2 hbe hbb f4
                      go_wp2
                      go_roundw
                      case rel => exact ⟨i + 1, by simp, hlt, HN.out.2.1, by rw [HN.out.1]; exact HN.out.2.2⟩
                      case measure => simp [intOf]; omega
                    · have hN := byI_yes HX.out.1 (by rw [HU.out, ← hbe]; rfl) bN rfl hb12
                      have hcl := hA2.cell bN (by rw [byI_len]; exact hb12)
                      rw [byI_at _ _ _ hb12] at hcl
                      have hfz := hA2.frozen bN
                      have hle := lasts_drop_le l i (bN : Int)
                      have hle2 : (lasts l).countP (fun o => o.be == (bN : Int)) ≤ l.length := Nat.le_trans List.countP_le_length (lasts_len l)
                      have hpos : 0 < (lasts (l.drop i)).countP (fun o => o.be == (bN : Int)) := by
                        rw [HX.out.1, lasts, if_pos (by rw [HU.out, ← hbe]; rfl), List.countP_cons]
                        simp
                      generalize (lasts l).countP (fun o => o.be == (bN : Int)) = m1 at hcl hN hle hle2
                      generalize (lasts (l.drop i)).countP (fun o => o.be == (bN : Int)) = m2 at hcl hN hle hpos
                      obtain ⟨x, hx⟩ : ∃ x : Int, x = (m1 : Int) - m2 := ⟨_, rfl⟩
                      rw [← hx] at hcl hN
                      have hx1 : -9223372036854775808 ≤ x := by omega
                      have hx2 : x + 1 ≤ 9223372036854775807 := by omega
                      have hgl := hA2.lt
                      have HN : Hid (_ ∧ _ ∧ _) := ⟨hN, hb2, hA2⟩
                      clear hN hb2 hA2 hbe hbb hle hle2 hpos hx
                      go_wp2
                      go_roundw
                      case rel => exact ⟨i + 1, by simp, hlt, HN.out.2.1.setCell (p := ⟨w1.heap.size, bN, none⟩) (Nat.le_refl _) _, by rw [HN.out.1]; exact HN.out.2.2.set bN _⟩
                      case measure => simp [intOf]; omega
            · have h1 : ¬ kd = 1 := by omega
              have h5 : ¬ kd = 5 := by omega
              have HN : Hid (byI l (i + 1) = byI l i) := byI_no HX.out.1 (by simp [isUp, h1, h5])
              have hd1 : (kd != 1) = true := by simp [h1]
              have hd5 : (kd != 5) = true := by simp [h5]
              clear hb hA hob hu
              go_wp2
              go_roundw
              case rel => exact ⟨i + 1, by simp, hlt, HX.out.2.1, by rw [HN.out]; exact HX.out.2.2.1⟩
              case measure => simp [intOf]; omega
          · have hid : ¬ ((i : Int) < (l.length : Int)) := by omega
            have hil : i = l.length := by omega
            have hAe : Arr 3 12 wr w1.heap.size (byL l) := by rw [hil, byI_end] at hA; exact hA
            have H4 : Hid (_ ∧ _) := ⟨hAe, hb⟩
            clear hAe hb hA hil
            go_wp2
            go_ret2
            rw [HE.out]
            refine ⟨some ⟨w1.heap.size, 0, none⟩, 12, ?_, ?_, H4.out.2⟩
            · show _ = Ending.returned (.tuple #[.slice _ (byL l).length 12, .int .i64 0])
              rw [byL_len]
              rfl
            · show InAt _ (.slice _ (byL l).length 12) (byL l)
              rw [byL_len]
              exact Arr.inAt H4.out.1 (by unfold maxLen; omega)
  · rw [if_pos rfl]
    have HE : Hid (O = ([], 5)) := by
      show O = _
      rw [HO.out]
      unfold byO
      rw [hbad]
      rfl
    clear hbad hmk
    go_wp2
    go_ret2
    rw [HE.out]
    exact ⟨none, 0, rfl, inAt_nil _, Below.refl _ _⟩
end Go.Proofs.Ythfadekfobceaaa.Walks
