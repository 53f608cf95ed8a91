/-
  isOfFlow, handleOf, Story. Condition: the outputs can be read; they take no more memory than there can be.
-/
import Derived.Test.YthfadekfobceaaaIdx
import Derived.Shelf.SlSortCmp.QuietGrown
import Derived.WalkKit
import Derived.ProofKit
import Derived.Handy
import Derived.LoopTactic
import Derived.Below
import Derived.Laws.BitsAllLaws
import Derived.RegionTactic
import Derived.Deep.RegionHeld3
import Derived.Deep.DrawnRows
import Derived.Deep.AppendLies
import Derived.Laws.OwnMore
import Derived.Deep.Onto
import Derived.Deep.QuietTactic
import Derived.BigQuiet
namespace Go.Proofs.Ythfadekfobceaaa.Walks
open Go.RowKit
set_option linter.unusedVariables false
set_option linter.unusedSimpArgs false
attribute [local go_sem ↓] Go.wp_at_zero Go.wp_at_succ
open Go.Sort (grow grow_empty grow_grow alloc_eq_grow cell?_grow heap_grow_old)

theorem mixed : Try.prog.follows .mixedOrders = true := by kernel_rfl

theorem below_grow (w : World) (q : Nat) (os : Array Obj) : Below w.heap.size w (grow (w.drewN q) os) :=
  ⟨rfl, rfl, rfl, by simp [grow, World.drewN], fun k hk => heap_grow_old (w.drewN q) os hk⟩

abbrev ouO (o : Ou) : Obj := .cells #[.int .i64 o.kind, .int .i64 o.slot, .int .i64 o.gen, .int .i64 o.be, .int .i64 o.req, .int .i64 o.code, .int .i64 o.why] 48

theorem ou_cells {w : World} {g : Nat} {o : Ou} (h : w.heap[g]? = some (ouO o)) : w.cell? ⟨g, 0, none⟩ = some (.int .i64 o.kind) ∧ w.cell? ⟨g, 1, none⟩ = some (.int .i64 o.slot) ∧ w.cell? ⟨g, 2, none⟩ = some (.int .i64 o.gen) ∧ w.cell? ⟨g, 3, none⟩ = some (.int .i64 o.be) ∧ w.cell? ⟨g, 4, none⟩ = some (.int .i64 o.req) ∧ w.cell? ⟨g, 5, none⟩ = some (.int .i64 o.code) ∧ w.cell? ⟨g, 6, none⟩ = some (.int .i64 o.why) ∧ g < w.heap.size :=
  ⟨by simp [World.cell?, h], by simp [World.cell?, h], by simp [World.cell?, h], by simp [World.cell?, h], by simp [World.cell?, h], by simp [World.cell?, h], by simp [World.cell?, h], (Array.getElem?_eq_some_iff.1 h).1⟩

theorem ou_cellsG {w : World} {g : Nat} {o : Ou} (h : w.heap[g]? = some (ouO o)) : (∀ n os, (grow (w.drewN n) os).cell? ⟨g, 0, none⟩ = some (.int .i64 o.kind)) ∧ (∀ n os, (grow (w.drewN n) os).cell? ⟨g, 1, none⟩ = some (.int .i64 o.slot)) ∧ (∀ n os, (grow (w.drewN n) os).cell? ⟨g, 2, none⟩ = some (.int .i64 o.gen)) ∧ (∀ n os, (grow (w.drewN n) os).cell? ⟨g, 3, none⟩ = some (.int .i64 o.be)) ∧ (∀ n os, (grow (w.drewN n) os).cell? ⟨g, 4, none⟩ = some (.int .i64 o.req)) ∧ (∀ n os, (grow (w.drewN n) os).cell? ⟨g, 5, none⟩ = some (.int .i64 o.code)) ∧ (∀ n os, (grow (w.drewN n) os).cell? ⟨g, 6, none⟩ = some (.int .i64 o.why)) :=
  have q := ou_cells h
  ⟨cell_grown (a := ⟨g, 0, none⟩) q.2.2.2.2.2.2.2 q.1, cell_grown (a := ⟨g, 1, none⟩) q.2.2.2.2.2.2.2 q.2.1, cell_grown (a := ⟨g, 2, none⟩) q.2.2.2.2.2.2.2 q.2.2.1, cell_grown (a := ⟨g, 3, none⟩) q.2.2.2.2.2.2.2 q.2.2.2.1, cell_grown (a := ⟨g, 4, none⟩) q.2.2.2.2.2.2.2 q.2.2.2.2.1, cell_grown (a := ⟨g, 5, none⟩) q.2.2.2.2.2.2.2 q.2.2.2.2.2.1, cell_grown (a := ⟨g, 6, none⟩) q.2.2.2.2.2.2.2 q.2.2.2.2.2.2.1⟩

theorem two_cellsG {w : World} {g : Nat} {a b : Value} {T : TypeId} (h : w.heap[g]? = some (.cells #[a, b] T (0, 0))) : (∀ n os, (grow (w.drewN n) os).cell? ⟨g, 0, none⟩ = some a) ∧ (∀ n os, (grow (w.drewN n) os).cell? ⟨g, 1, none⟩ = some b) :=
  have q := two_cells h
  ⟨cell_grown (a := ⟨g, 0, none⟩) q.2.2.2.2 q.1, cell_grown (a := ⟨g, 1, none⟩) q.2.2.2.2 q.2.1⟩

theorem infoOu : (Try.prog.info? 48).map (fun i => (i.zero, i.size, i.bytes)) = some (some (.agg #[.int .i64 0, .int .i64 0, .int .i64 0, .int .i64 0, .int .i64 0, .int .i64 0, .int .i64 0]), 7, 56) := by kernel_rfl

set_option maxHeartbeats 4000000 in
theorem isOfFlow_any (o : Ou) (w : World) :
    Calls Try.prog 27 #[ouA o] w fun r w' => r = .returned (.bool (ofF o)) ∧ ∃ q os, w' = grow (w.drewN q) os := by
  obtain ⟨kd, sl, gn, be, rq, cd, wy⟩ := o
  have hq : ofF ⟨kd, sl, gn, be, rq, cd, wy⟩ = (decide (kd = 1) || (decide (3 ≤ kd) && decide (kd ≤ 7))) := rfl
  have key : (kd = 1 ∨ kd = 3 ∨ kd = 4 ∨ kd = 5 ∨ kd = 6 ∨ kd = 7) ∨ (¬ kd = 1 ∧ ¬ kd = 3 ∧ ¬ kd = 4 ∧ ¬ kd = 5 ∧ ¬ kd = 6 ∧ ¬ kd = 7) := by omega
  rcases key with h | ⟨h1, h3, h4, h5, h6, h7⟩
  · have e : ofF ⟨kd, sl, gn, be, rq, cd, wy⟩ = true := by rw [hq]; simp; omega
    rw [e]
    clear e hq
    rcases h with rfl | rfl | rfl | rfl | rfl | rfl
    all_goals
      go_enter Try.func27, Try.ntmps27
      go_wp2
      go_ret
      exact ⟨rfl, 0, #[_], alloc_eq_grow _ _⟩
  · have e : ofF ⟨kd, sl, gn, be, rq, cd, wy⟩ = false := by rw [hq]; simp; omega
    rw [e]
    clear e hq
    go_enter Try.func27, Try.ntmps27
    go_wp2
    go_ret
    exact ⟨rfl, 0, #[_], alloc_eq_grow _ _⟩

set_option maxHeartbeats 4000000 in
theorem handleOf_any (o : Ou) (w : World) :
    Calls Try.prog 28 #[ouA o] w fun r w' => r = .returned (.agg #[.int .i64 o.slot, .int .i64 o.gen]) ∧ ∃ q os, w' = grow (w.drewN q) os := by
  go_enter Try.func28, Try.ntmps28
  go_wp2
  refine bodyPost_ret (v := .agg #[.int .i64 o.slot, .int .i64 o.gen]) (results_c Try.results28 rfl (load_row (cs := [.int .i64 o.slot, .int .i64 o.gen]) (heap_second _ _ _) Try.underlying36 rfl (by kernel_rfl))) rfl ⟨rfl, 0, #[ouO o, .cells #[.int .i64 o.slot, .int .i64 o.gen] 36], ?_⟩
  rw [alloc_eq_grow, alloc_eq_grow, grow_grow]
  rfl

theorem storyL_snoc {l : List Ou} {s g : Int} {k : Nat} {x : Ou} (h : l.take (k + 1) = l.take k ++ [x]) : storyL (l.take (k + 1)) s g = storyL (l.take k) s g ++ (if mine s g x then [x] else []) := by
  rw [h]
  simp only [storyL, List.filter_append, List.filter_cons, List.filter_nil]

theorem storyL_le (l : List Ou) (s g : Int) : (storyL l s g).length ≤ l.length := List.length_filter_le _ _

/-- A story that was told: outputs, in new memory, and an error. -/
def StoRes (O : List Ou × Int) (w : World) (r : Ending) (w' : World) : Prop := ∃ p c, r = .returned (.tuple #[.slice p O.1.length c, .int .i64 O.2]) ∧ OsAt w' (.slice p O.1.length c) O.1 ∧ Below w.heap.size w w'

set_option maxHeartbeats 8000000 in
set_option maxRecDepth 100000 in
theorem story_any (v : Value) (l : List Ou) (s g : Int) (w : World) (hv : OsAt w v l) (hl : l.length * 56 ≤ 140737488355328) :
    Calls Try.prog 17 #[v, .agg #[.int .i64 s, .int .i64 g]] w (StoRes (storyO l s g) w) := by
  obtain ⟨p, c, rfl, hc, hm, pv⟩ := OsAt.parts hv
  unfold maxLen at hm
  obtain ⟨W0, hW0⟩ : ∃ W0, W0 = w.alloc (.cells #[.int .i64 s, .int .i64 g] 36) := ⟨_, rfl⟩
  have hb0 : Below w.heap.size w W0 := by rw [hW0]; exact below_new w
  have hR0 : W0.heap[w.heap.size]? = some (.cells #[.int .i64 s, .int .i64 g] 36 (0, 0)) := by rw [hW0]; exact heap_alloc_new _ _
  have HV : Hid (_ ∧ _ ∧ _ ∧ _ ∧ _ ∧ _) := ⟨hv, pv, hb0, hR0, hW0, hl⟩
  clear hv pv hb0 hR0 hW0 hl
  go_enter Try.func17, Try.ntmps17
  go_wp2_with fail
  rw [← HV.out.2.2.2.2.1]
  refine (check_any _ l _ (HV.out.1.below HV.out.2.2.1)).mono ?_
  rintro r w1 ⟨rfl, hb1⟩
  have hbw := HV.out.2.2.1.trans (hb1.mono HV.out.2.2.1.size)
  have hR1 := box_below HV.out.2.2.2.1 hb1
  cases hbad : anyBad l
  · rw [if_neg Bool.false_ne_true]
    have hout : storyO l s g = (storyL l s g, 0) := by unfold storyO; rw [hbad]; rfl
    have HB : Hid (_ ∧ _ ∧ _) := ⟨hR1, hbw, hout⟩
    clear hR1 hbw hb1 hbad hout
    go_wp2
    go_loopw [7, 17] (fun o i wr => ∃ (k n c' : Nat) (p' : Option Addr), i = .int .i64 k ∧ o = .slice p' n c' ∧ k ≤ l.length ∧ Hid (n = (storyL (l.take k) s g).length) ∧ Below w1.heap.size w1 wr ∧ wr.ownsRow w1.heap.size 48 7 (.slice p' n c') n (rv ouV (storyL (l.take k) s g))) (fun _ i _ => l.length - (intOf i).toNat)
    case atStart => exact ⟨0, 0, 0, none, rfl, rfl, Nat.zero_le _, rfl, Below.refl _ _, World.ownsRow_nil _ _ _ _⟩
    case round =>
      obtain ⟨k, n, c', p', rfl, rfl, hk, hn, hb, ho⟩ := hrel
      by_cases hlt : k < l.length
      · obtain ⟨b0, off, rfl, hb0', c1, c2, c3, c4, c5, c6, c7⟩ := HV.out.2.1 k hlt
        have hbr := HB.out.2.1.trans (hb.mono HB.out.2.1.size)
        have e1 := (hbr.cell (p := ⟨b0, off + k * 7, none⟩) hb0').trans c1
        have e2 := (hbr.cell (p := ⟨b0, off + k * 7 + 1, none⟩) hb0').trans c2
        have e3 := (hbr.cell (p := ⟨b0, off + k * 7 + 2, none⟩) hb0').trans c3
        have e4 := (hbr.cell (p := ⟨b0, off + k * 7 + 3, none⟩) hb0').trans c4
        have e5 := (hbr.cell (p := ⟨b0, off + k * 7 + 4, none⟩) hb0').trans c5
        have e6 := (hbr.cell (p := ⟨b0, off + k * 7 + 5, none⟩) hb0').trans c6
        have e7 := (hbr.cell (p := ⟨b0, off + k * 7 + 6, none⟩) hb0').trans c7
        obtain ⟨⟨kd, sl, gn, be, rq, cd, wy⟩, hx⟩ : ∃ x, x = l[k] := ⟨_, rfl⟩
        have hst := storyL_snoc (s := s) (g := g) (take_snoc hlt hx)
        rw [← hx] at e1 e2 e3 e4 e5 e6 e7
        dsimp only at e1 e2 e3 e4 e5 e6 e7
        have hltI : (k : Int) < (l.length : Int) := by omega
        obtain ⟨W1, hW1⟩ : ∃ W1, W1 = wr.alloc (ouO ⟨kd, sl, gn, be, rq, cd, wy⟩) := ⟨_, rfl⟩
        have hbn : Below wr.heap.size wr W1 := by rw [hW1]; exact below_new wr
        have hX : W1.heap[wr.heap.size]? = some (ouO ⟨kd, sl, gn, be, rq, cd, wy⟩) := by rw [hW1]; exact heap_alloc_new _ _
        have hb1 := hb.trans (hbn.mono hb.size)
        have hRr := box_below HB.out.1 hb1
        obtain ⟨q0, q1⟩ := two_cellsG hRr
        obtain ⟨k0, k1, k2, k3, k4, k5, k6⟩ := ou_cellsG hX
        have HI : Hid (∀ n os, Calls Try.prog 27 #[ouA ⟨kd, sl, gn, be, rq, cd, wy⟩] (grow (W1.drewN n) os) fun r w' => r = .returned (.bool (ofF ⟨kd, sl, gn, be, rq, cd, wy⟩)) ∧ ∃ q os', w' = grow ((grow (W1.drewN n) os).drewN q) os') := fun n os => isOfFlow_any ⟨kd, sl, gn, be, rq, cd, wy⟩ _
        have HH : Hid (∀ n os, Calls Try.prog 28 #[ouA ⟨kd, sl, gn, be, rq, cd, wy⟩] (grow (W1.drewN n) os) fun r w' => r = .returned (.agg #[.int .i64 sl, .int .i64 gn]) ∧ ∃ q os', w' = grow ((grow (W1.drewN n) os).drewN q) os') := fun n os => handleOf_any ⟨kd, sl, gn, be, rq, cd, wy⟩ _
        have hml : n + 1 ≤ l.length := by
          rw [hn.out]
          have := storyL_le (l.take k) s g
          rw [List.length_take] at this
          omega
        have HR : Hid (_ ∧ _ ∧ _ ∧ _ ∧ _ ∧ _ ∧ _) := ⟨hb1, own_grownW ho hbn, hst, hX, hW1, hml, hn.out⟩
        clear hb ho hst hX hW1 hml hn hbn hb1 hbr c1 c2 c3 c4 c5 c6 c7 hb0' hx hRr
        cases hf : ofF ⟨kd, sl, gn, be, rq, cd, wy⟩
        · have hmn : mine s g ⟨kd, sl, gn, be, rq, cd, wy⟩ = false := by unfold mine; rw [hf]; rfl
          rw [hf] at HI
          have HM : Hid _ := hmn
          clear hmn hf
          go_wp2_with fail
          rw [← HR.out.2.2.2.2.1]
          refine wp_region_quiet_grown mixed (by kernel_rfl) ?_
          repeat (first | go_big_quiet_skip | quiet_step (first | (go_at_call 27; exact Calls.grown_of (HI.out _ _)) | (go_at_call 28; exact Calls.grown_of (HH.out _ _))))
          refine wpQuiet_nil ?_
          intro _ hw'
          obtain ⟨⟨nq, osq⟩, hw''⟩ := hw'
          subst hw''
          have hbq := below_grow W1 nq osq
          have HB2 : Hid (_ ∧ _) := ⟨HR.out.1.trans (hbq.mono HR.out.1.size), own_grownW HR.out.2.1 hbq⟩
          clear hbq
          generalize grow (W1.drewN nq) osq = w3 at HB2 ⊢
          clear k0 k1 k2 k3 k4 k5 k6 q0 q1 e1 e2 e3 e4 e5 e6 e7
          go_wp2
          go_roundw
          case rel =>
            have hs := HR.out.2.2.1
            rw [HM.out, if_neg Bool.false_ne_true, List.append_nil] at hs
            exact ⟨k + 1, n, c', p', by simp, rfl, hlt, by show n = _; rw [hs]; exact HR.out.2.2.2.2.2.2, HB2.out.1, by rw [hs]; exact HB2.out.2⟩
          case measure => simp [intOf]; omega
        · rw [hf] at HI
          by_cases hm2 : sl = s ∧ gn = g
          · obtain ⟨hs, hg⟩ := hm2
            have hmn : mine s g ⟨kd, sl, gn, be, rq, cd, wy⟩ = true := by unfold mine; rw [hf]; simp [hs, hg]
            have HM : Hid _ := hmn
            clear hmn hf
            subst hs hg
            go_wp2_with fail
            rw [← HR.out.2.2.2.2.1]
            refine wp_region_quiet_grown mixed (by kernel_rfl) ?_
            repeat (first | go_big_quiet_skip | quiet_step (first | (go_at_call 27; exact Calls.grown_of (HI.out _ _)) | (go_at_call 28; exact Calls.grown_of (HH.out _ _))))
            refine wpQuiet_nil ?_
            intro _ hw'
            obtain ⟨⟨nq, osq⟩, hw''⟩ := hw'
            subst hw''
            have hbq := below_grow W1 nq osq
            have hX3 := box_below HR.out.2.2.2.1 hbq
            have hb3 := HR.out.1.trans (hbq.mono HR.out.1.size)
            have ho3 := own_grownW HR.out.2.1 hbq
            generalize grow (W1.drewN nq) osq = w3 at hX3 hb3 ho3 ⊢
            clear k0 k1 k2 k3 k4 k5 k6 q0 q1 e1 e2 e3 e4 e5 e6 e7 hbq
            obtain ⟨k0, k1, k2, k3, k4, k5, k6, klt⟩ := ou_cells hX3
            obtain ⟨g2, c2, w4, hr, ho4, hg4, hlies⟩ := append_oneV ou7 ou1 (by decide) Try.underlying22 infoOu rfl ho3 hb3.size 22 (⟨kd, sl, gn, be, rq, cd, wy⟩ : Ou) #[.int .i64 kd, .int .i64 sl, .int .i64 gn, .int .i64 be, .int .i64 rq, .int .i64 cd, .int .i64 wy] rfl (by have := HV.out.2.2.2.2.2; have := HR.out.2.2.2.2.2.1; omega) (by have := HR.out.2.2.2.2.2.1; unfold maxLen; omega)
            have hb4 : Below w1.heap.size w1 w4 := hb3.grown hg4 hb3.size (fun j hj => (ho3.lt j hj).1)
            have H4 : Hid (_ ∧ _ ∧ _) := ⟨hr, ho4, hb4⟩
            clear hr ho4 hb4 hg4 hlies hb3 ho3 hX3
            go_wp2_with (at_builtin; (with_reducible refine wpList_append_eq rfl _ _ 22 rfl (.slice p' n c') (.slice (some ⟨w3.heap.size, 0, none⟩) 1 1) (.slice (some ⟨g2, 0, none⟩) (n + 1) c2) w4 ?hs ?hx ?hr ?_); (case hs => rfl); (case hx => rfl); (case hr => exact H4.out.1))
            go_roundw
            case rel =>
              have hs := HR.out.2.2.1
              rw [HM.out, if_pos rfl] at hs
              exact ⟨k + 1, n + 1, c2, some ⟨g2, 0, none⟩, by simp, rfl, hlt, by show n + 1 = _; rw [hs, HR.out.2.2.2.2.2.2]; simp, H4.out.2.2, by rw [hs]; exact H4.out.2.1⟩
            case measure => simp [intOf]; omega
          · have hmn : mine s g ⟨kd, sl, gn, be, rq, cd, wy⟩ = false := by unfold mine; rw [hf]; simp; omega
            have HM : Hid _ := hmn
            clear hmn hf
            by_cases hs : sl = s
            · have hg : ¬ gn = g := fun e => hm2 ⟨hs, e⟩
              clear hm2
              subst hs
              go_wp2_with fail
              rw [← HR.out.2.2.2.2.1]
              refine wp_region_quiet_grown mixed (by kernel_rfl) ?_
              repeat (first | go_big_quiet_skip | quiet_step (first | (go_at_call 27; exact Calls.grown_of (HI.out _ _)) | (go_at_call 28; exact Calls.grown_of (HH.out _ _))))
              refine wpQuiet_nil ?_
              intro _ hw'
              obtain ⟨⟨nq, osq⟩, hw''⟩ := hw'
              subst hw''
              have hbq := below_grow W1 nq osq
              have HB2 : Hid (_ ∧ _) := ⟨HR.out.1.trans (hbq.mono HR.out.1.size), own_grownW HR.out.2.1 hbq⟩
              clear hbq
              generalize grow (W1.drewN nq) osq = w3 at HB2 ⊢
              clear k0 k1 k2 k3 k4 k5 k6 q0 q1 e1 e2 e3 e4 e5 e6 e7
              go_wp2
              go_roundw
              case rel =>
                have hs := HR.out.2.2.1
                rw [HM.out, if_neg Bool.false_ne_true, List.append_nil] at hs
                exact ⟨k + 1, n, c', p', by simp, rfl, hlt, by show n = _; rw [hs]; exact HR.out.2.2.2.2.2.2, HB2.out.1, by rw [hs]; exact HB2.out.2⟩
              case measure => simp [intOf]; omega
            · clear hm2
              go_wp2_with fail
              rw [← HR.out.2.2.2.2.1]
              refine wp_region_quiet_grown mixed (by kernel_rfl) ?_
              repeat (first | go_big_quiet_skip | quiet_step (first | (go_at_call 27; exact Calls.grown_of (HI.out _ _)) | (go_at_call 28; exact Calls.grown_of (HH.out _ _))))
              refine wpQuiet_nil ?_
              intro _ hw'
              obtain ⟨⟨nq, osq⟩, hw''⟩ := hw'
              subst hw''
              have hbq := below_grow W1 nq osq
              have HB2 : Hid (_ ∧ _) := ⟨HR.out.1.trans (hbq.mono HR.out.1.size), own_grownW HR.out.2.1 hbq⟩
              clear hbq
              generalize grow (W1.drewN nq) osq = w3 at HB2 ⊢
              clear k0 k1 k2 k3 k4 k5 k6 q0 q1 e1 e2 e3 e4 e5 e6 e7
              go_wp2
              go_roundw
              case rel =>
                have hs := HR.out.2.2.1
                rw [HM.out, if_neg Bool.false_ne_true, List.append_nil] at hs
                exact ⟨k + 1, n, c', p', by simp, rfl, hlt, by show n = _; rw [hs]; exact HR.out.2.2.2.2.2.2, HB2.out.1, by rw [hs]; exact HB2.out.2⟩
              case measure => simp [intOf]; omega
      · obtain rfl : k = l.length := by omega
        rw [List.take_length] at ho hn
        have H2 : Hid (_ ∧ _ ∧ _) := ⟨ho, hb, hn.out⟩
        clear ho hb hn
        go_wp2
        go_ret2
        rw [HB.out.2.2]
        refine ⟨p', c', ?_, ?_, HB.out.2.1.trans (H2.out.2.1.mono HB.out.2.1.size)⟩
        · show _ = Ending.returned (.tuple #[.slice _ (storyL l s g).length c', .int .i64 0])
          rw [← H2.out.2.2]
          rfl
        · show RowAt _ (.slice _ (storyL l s g).length c') (storyL l s g).length _
          rw [← H2.out.2.2]
          exact rowAt_own H2.out.1
  · rw [if_pos rfl]
    have hout : storyO l s g = ([], 5) := by unfold storyO; rw [hbad]; rfl
    have HB : Hid (_ ∧ _) := ⟨hbw, hout⟩
    clear hR1 hbw hb1 hbad hout
    go_wp2
    go_ret2
    rw [HB.out.2]
    exact ⟨none, 0, rfl, rvAt_nil _, HB.out.1⟩
end Go.Proofs.Ythfadekfobceaaa.Walks
