/-
  The document's Noted. Condition: what is read can be read.
-/
import Derived.Test.YtofnhdkcadoiiaaRef
import Derived.WalkKit
import Derived.ProofKit
import Derived.Handy
import Derived.LoopTactic
import Derived.Below
import Derived.Laws.BitsAllLaws
import Derived.RegionTactic
import Derived.Deep.RegionHeld3
import Derived.Deep.DrawnRows
import Derived.Deep.AppendLies
import Derived.Laws.OwnMore
import Derived.Deep.Onto
import Derived.Deep.QuietTactic
import Derived.BigQuiet
namespace Go.Proofs.Ytofnhdkcadoiiaa.Walks
open Go.RowKit
set_option linter.unusedVariables false
set_option linter.unusedSimpArgs false
attribute [local go_sem ↓] Go.wp_at_zero Go.wp_at_succ

def kp (b : Bool) (m : List Bool) : List Bool := if b then m else m.drop 1

theorem kp_snoc (b : Bool) (m : List Bool) (y : Bool) (h : b = true ∨ m ≠ []) : kp b (m ++ [y]) = kp b m ++ [y] := by
  cases b
  · have hm : m ≠ [] := h.resolve_left (by decide)
    cases m with
    | nil => exact absurd rfl hm
    | cons a m => rfl
  · rfl

theorem kp_len (b : Bool) (m : List Bool) : (kp b m).length ≤ m.length := by
  cases b
  · simp [kp]
  · exact Nat.le_refl _

theorem last_kp {n : Int} {l : List Bool} (x : Bool) (h1 : 1 ≤ n) (hl : (l.length : Int) ≤ n) : lastN n l x = kp (decide ((l.length : Int) < n)) (l ++ [x]) := by
  unfold lastN
  by_cases h : (l.length : Int) < n
  · rw [if_pos h, decide_eq_true h]; rfl
  · rw [if_neg h, decide_eq_false h, kp_snoc false l x (.inr (fun e => by rw [e] at h; simp at h; omega))]
    rfl

set_option maxHeartbeats 16000000 in
set_option maxRecDepth 100000 in
theorem noted_any (n f d : Int) (v : Value) (l : List Bool) (o : Bool) (u t : Int) (x : Bool) (now : Int) (may : Bool) (w : World) (hv : BsAt w v l) (hl : l.length ≤ 140737488355328) :
    Calls Try.prog 13 #[watV n f d, hltV v o u t, .bool x, .int .i64 now, .bool may] w (HPost w (noteO n f d l o u t x now may)) := by
  obtain ⟨p, c, rfl, hlc, hcm, pa⟩ := hv.parts
  obtain ⟨W0, hW0⟩ : ∃ W0, W0 = ((w.alloc (.cells #[.int .i64 n, .int .i64 f, .int .i64 d] 23)).alloc (.cells #[.slice p l.length c, .bool o, .int .i64 u, .int .i64 t] 29)).alloc (.cells #[.slice none 0 0, .bool false, .int .i64 0, .int .i64 0] 29) := ⟨_, rfl⟩
  have hX0 : Hy w W0 n f d (.slice p l.length c) o u t (.slice none 0 0) false 0 0 := by rw [hW0]; exact hy_new _ _ _ _ _ _ _ _ _ _ _ _
  obtain ⟨c0, c1, c2, c3, c4, c5, c6, _⟩ := hX0.cells
  have H : Hid (_ ∧ Hy _ _ _ _ _ _ _ _ _ _ _ _ _) := ⟨hW0, hX0⟩
  have PA : Hid _ := pa
  clear hW0 hX0 hv pa
  go_enter Try.func13, Try.ntmps13
  go_wp2_with fail
  rw [← H.out.1]
  refine (health_fault n f d p l.length c o u t now _ hl).mono ?_
  rintro r w1 ⟨rfl, hb1⟩
  have HX : Hid (Hy _ _ _ _ _ _ _ _ _ _ _ _ _) := H.out.2.below hb1
  clear c0 c1 c2 c3 c4 c5 c6 hb1 H
  obtain ⟨c0, c1, c2, c3, c4, c5, c6, f0, f1, f2, d0, d1, d2, d3, g0, g1, g2, g3⟩ := HX.out.cells
  rcases all_cases n f d l.length o u t now with ⟨hE, _⟩ | ⟨hE, _⟩ | ⟨hE, hok, hnow, hh⟩
  · have E : Hid (noteO n f d l o u t x now may = (([], false, 0, 0), false, 2)) := (by unfold noteO; rw [hE, if_neg (by decide)] : noteO n f d l o u t x now may = (([], false, 0, 0), false, 2))
    rw [hE]
    clear hE
    go_wp2
    exact bodyPost_ret (v := .tuple #[hltV (.slice none 0 0) false 0 0, .bool false, .int .i64 2]) ((HX.out.set _ _ _ _).res Try.results13 rfl rfl rfl) rfl (hpost_nil E.out (HX.out.set _ _ _ _).bel)
  · have E : Hid (noteO n f d l o u t x now may = (([], false, 0, 0), false, 6)) := (by unfold noteO; rw [hE, if_neg (by decide)] : noteO n f d l o u t x now may = (([], false, 0, 0), false, 6))
    rw [hE]
    clear hE
    go_wp2
    exact bodyPost_ret (v := .tuple #[hltV (.slice none 0 0) false 0 0, .bool false, .int .i64 6]) ((HX.out.set _ _ _ _).res Try.results13 rfl rfl rfl) rfl (hpost_nil E.out (HX.out.set _ _ _ _).bel)
  · have E : Hid (noteO n f d l o u t x now may = if o = false ∧ may = true ∧ f ≤ (cntT (lastN n l x) : Int) then (([], true, now + holdV d t, min (t + 1) 10), true, 0) else ((lastN n l x, o, u, t), false, 0)) := if_pos hE
    rw [hE]
    clear hE
    have hL : l.length ≤ 16 := by have := hh.1; have := hok.1.2; omega
    have OK : Hid (WatOk n f d ∧ _ ∧ HOk n l.length o u t) := ⟨hok, hnow, hh⟩
    clear c0 c1 c2 c3 c4 c5 c6 f0 f1 f2 d0 d1 d2 d3 g0 g1 g2 g3
    have hn1 : 1 ≤ n := hok.1.1
    have hn2 : n ≤ 16 := hok.1.2
    have hln : (l.length : Int) ≤ n := hh.1
    clear hok hnow hh hlc
    unfold maxLen at hcm
    go_wp2
    go_loopw [14, 15] (fun s i wr => ∃ (k : Nat) (q : Option Addr) (e : Nat), i = .int .i64 k ∧ s = .slice q k e ∧ k ≤ l.length ∧ wr.ownsRow w1.heap.size 4 1 (.slice q k e) k (bcells (l.take k)) ∧ Below w1.heap.size w1 wr) (fun _ i _ => l.length - (intOf i).toNat)
    case atStart => exact ⟨0, none, 0, rfl, rfl, Nat.zero_le _, World.ownsRow_nil _ _ _ _, Below.refl _ _⟩
    case round =>
      obtain ⟨k, q, e, rfl, rfl, hk, ho, hb⟩ := hrel
      have HY : Hid (Hy _ _ _ _ _ _ _ _ _ _ _ _ _) := HX.out.below hb
      obtain ⟨c0, c1, c2, c3, _⟩ := HY.out.cells
      by_cases hlt : k < l.length
      · obtain ⟨b1, o1, rfl, hb1, hc⟩ := PA.out k hlt
        have hc' := (HY.out.bel.cell (p := ⟨b1, o1 + k, none⟩) hb1).trans hc
        obtain ⟨p', e', w5, hr, ho', hb'⟩ := append_oneB ho hb.size (by omega) 27 l[k]
        rw [← List.take_succ_eq_append_getElem hlt] at ho'
        have HQ : Hid (_ ∧ _ ∧ _) := ⟨hr, ho', hb.trans hb'⟩
        have hbl : b1 < wr.heap.size := Nat.lt_of_lt_of_le hb1 HY.out.bel.size
        generalize l[k] = y at hc' HQ
        clear hc hb1 hr ho' hb' hb ho
        have hkd : (k : Int) < (l.length : Int) := by omega
        go_wp2_with (at_builtin; (with_reducible refine wpList_append_eq rfl _ _ 27 rfl (.slice q k e) (.slice (some ⟨wr.heap.size, 0, none⟩) 1 1) (.slice p' (k + 1) e') w5 ?hs ?hx ?hr ?_); (case hs => rfl); (case hx => rfl); (case hr => exact HQ.out.1))
        go_wp2
        go_roundw
        case rel => exact ⟨k + 1, p', e', by simp, rfl, hlt, HQ.out.2.1, HQ.out.2.2⟩
        case measure => simp [intOf]; omega
      · obtain rfl : k = l.length := by omega
        rw [List.take_length] at ho
        obtain ⟨p', e', w5, hr, ho', hb'⟩ := append_oneB ho hb.size (by omega) 27 x
        have HQ : Hid (_ ∧ _ ∧ _) := ⟨hr, ho', hb.trans hb'⟩
        clear hr ho' hb' hb ho
        go_wp2_with (at_builtin; (with_reducible refine wpList_append_eq rfl _ _ 27 rfl (.slice q l.length e) (.slice (some ⟨wr.heap.size, 0, none⟩) 1 1) (.slice p' (l.length + 1) e') w5 ?hs ?hx ?hr ?_); (case hs => rfl); (case hx => rfl); (case hr => exact HQ.out.1))
        clear c0 c1 c2 c3
        have hA : BsAt w5 (.slice p' (l.length + 1) e') (l ++ [x]) := by
          refine bsAt_own (base := w1.heap.size) ?_
          rw [List.length_append]
          exact HQ.out.2.1
        obtain ⟨_, _, he, _, hem, pB⟩ := hA.parts
        have hAl : (l ++ [x]).length = l.length + 1 := by simp
        rw [hAl] at he
        cases he
        unfold maxLen at hem
        have HB : Hid (_ ∧ Hy _ w5 _ _ _ _ _ _ _ _ _ _ _) := ⟨pB, HX.out.below HQ.out.2.2⟩
        have HAl : Hid _ := hAl
        obtain ⟨b, hbb⟩ : ∃ b, b = decide ((l.length : Int) < n) := ⟨_, rfl⟩
        have HLast : Hid (lastN n l x = kp b (l ++ [x])) := (by rw [last_kp x hn1 hln, ← hbb] : lastN n l x = kp b (l ++ [x]))
        obtain ⟨L, hLL⟩ : ∃ L, L = l ++ [x] := ⟨_, rfl⟩
        rw [← hLL] at HB HAl HLast
        have HBB : Hid _ := hbb
        have hbnd : ∀ k, cntT (kp b (L.take k)) ≤ 17 ∧ (kp b (L.take k)).length ≤ 17 := fun k => by
          have h1 := cntT_le (kp b (L.take k))
          have h2 := kp_len b (L.take k)
          have h3 : (L.take k).length ≤ L.length := by rw [List.length_take]; omega
          have h4 := HAl.out
          omega
        have HBN : Hid _ := hbnd
        clear hbnd pB hA hAl hbb hLL HY
        go_wp2
        go_loopw [16, 17, 18] (fun s m i wr => ∃ (k j y : Nat) (q2 : Option Addr) (e2 : Nat), i = .int .i64 k ∧ s = .slice q2 j e2 ∧ m = .int .i64 y ∧ k ≤ l.length + 1 ∧ j = (kp b (L.take k)).length ∧ y = cntT (kp b (L.take k)) ∧ wr.ownsRow w5.heap.size 4 1 (.slice q2 j e2) j (bcells (kp b (L.take k))) ∧ Below w5.heap.size w5 wr) (fun _ _ i _ => l.length + 1 - (intOf i).toNat)
        case atStart =>
          refine ⟨0, 0, 0, none, 0, rfl, rfl, rfl, Nat.zero_le _, ?_, ?_, ?_, Below.refl _ _⟩
          · cases b <;> rfl
          · cases b <;> rfl
          · have : kp b (L.take 0) = [] := by cases b <;> rfl
            rw [this]
            exact World.ownsRow_nil _ _ _ _
        case round =>
          obtain ⟨k, j, y, q2, e2, rfl, rfl, rfl, hk, hj, hy, ho, hb⟩ := hrel
          have hY := HB.out.2.below hb
          have hbd := HBN.out k
          rw [← hj, ← hy] at hbd
          obtain ⟨y1, y2⟩ := hbd
          by_cases hlt : k < l.length + 1
          · have hltL : k < L.length := by rw [HAl.out]; exact hlt
            have hkd : (k : Int) < (l.length : Int) + 1 := by omega
            obtain ⟨c0, c1, c2, c3, _⟩ := hY.cells
            by_cases hskip : n < (l.length : Int) + 1 - (k : Int)
            · have hk0 : k = 0 := by omega
              have hb0 : b = false := by rw [HBB.out]; exact decide_eq_false (by omega)
              have hnext : kp b (L.take (k + 1)) = kp b (L.take k) := by
                subst hk0
                rw [hb0]
                cases L with
                | nil => rfl
                | cons a L => rfl
              have HR : Hid (_ ∧ _ ∧ _ ∧ _) := ⟨hnext ▸ hj, hnext ▸ hy, hnext ▸ ho, hb⟩
              clear hj hy ho hb hnext hk0 hb0 hY
              go_wp2
              go_roundw
              case rel => exact ⟨k + 1, j, y, q2, e2, by simp, rfl, rfl, hlt, HR.out.1, HR.out.2.1, HR.out.2.2.1, HR.out.2.2.2⟩
              case measure => simp [intOf]; omega
            · have hnext : kp b (L.take (k + 1)) = kp b (L.take k) ++ [L[k]] := by
                rw [List.take_succ_eq_append_getElem hltL]
                refine kp_snoc _ _ _ ?_
                by_cases hbt : b = true
                · exact .inl hbt
                · refine .inr fun e => ?_
                  rw [HBB.out] at hbt
                  have hbt' : ¬ ((l.length : Int) < n) := fun h => hbt (decide_eq_true h)
                  have : (L.take k).length = 0 := by rw [e]; rfl
                  rw [List.length_take] at this
                  omega
              obtain ⟨b1, o1, rfl, hb1, hc⟩ := HB.out.1 k hltL
              have hc' := (hb.cell (p := ⟨b1, o1 + k, none⟩) hb1).trans hc
              have hbl : b1 < wr.heap.size := Nat.lt_of_lt_of_le hb1 hb.size
              obtain ⟨p2, e3, w6, hr, ho', hb'⟩ := append_oneB ho hb.size (by omega) 27 L[k]
              have hc6 := (hb'.cell (p := ⟨b1, o1 + k, none⟩) hb1).trans hc'
              rw [← hnext] at ho'
              have hlen : j + 1 = (kp b (L.take (k + 1))).length := by rw [hnext, List.length_append, ← hj]; rfl
              have hcnt : cntT (kp b (L.take (k + 1))) = y + (if L[k] then 1 else 0) := by rw [hnext, cntT_snoc, ← hy]
              have HQ2 : Hid (_ ∧ _ ∧ _ ∧ _) := ⟨hr, ho', hb.trans hb', hlen⟩
              have HC : Hid _ := hcnt
              generalize L[k] = z at hc' hc6 HQ2 HC
              clear hr ho' hb' hb ho hnext hc hb1 hlen hcnt hj hy hY
              cases z
              · go_wp2_with (at_builtin; (with_reducible refine wpList_append_eq rfl _ _ 27 rfl (.slice q2 j e2) (.slice (some ⟨wr.heap.size, 0, none⟩) 1 1) (.slice p2 (j + 1) e3) w6 ?hs ?hx ?hr ?_); (case hs => rfl); (case hx => rfl); (case hr => exact HQ2.out.1))
                go_wp2
                go_roundw
                case rel => exact ⟨k + 1, j + 1, y, p2, e3, by simp, rfl, rfl, hlt, HQ2.out.2.2.2, by rw [HC.out]; rfl, HQ2.out.2.1, HQ2.out.2.2.1⟩
                case measure => simp [intOf]; omega
              · go_wp2_with (at_builtin; (with_reducible refine wpList_append_eq rfl _ _ 27 rfl (.slice q2 j e2) (.slice (some ⟨wr.heap.size, 0, none⟩) 1 1) (.slice p2 (j + 1) e3) w6 ?hs ?hx ?hr ?_); (case hs => rfl); (case hx => rfl); (case hr => exact HQ2.out.1))
                go_wp2
                go_roundw
                case rel => exact ⟨k + 1, j + 1, y + 1, p2, e3, by simp, rfl, by simp, hlt, HQ2.out.2.2.2, by rw [HC.out]; rfl, HQ2.out.2.1, HQ2.out.2.2.1⟩
                case measure => simp [intOf]; omega
          · obtain rfl : k = l.length + 1 := by omega
            rw [← HAl.out, List.take_length, ← HLast.out] at hj hy ho
            have HZ : Hid (Hy _ _ _ _ _ _ _ _ _ _ _ _ _ ∧ _ ∧ _ ∧ w.heap.size + 1 + 1 < w5.heap.size) := ⟨hY, ho, hj, (Array.getElem?_eq_some_iff.1 HB.out.2.2).1⟩
            have stays : o = true ∨ may = false ∨ ¬ (f ≤ (y : Int)) → noteO n f d l o u t x now may = ((lastN n l x, o, u, t), false, 0) := fun h => by
              rw [E.out, if_neg]
              rintro ⟨h1, h2, h3⟩
              rw [← hy] at h3
              rcases h with h | h | h
              · rw [h1] at h; cases h
              · rw [h2] at h; cases h
              · exact h h3
            have goes : o = false ∧ may = true ∧ f ≤ (y : Int) → noteO n f d l o u t x now may = (([], true, now + holdV d t, min (t + 1) 10), true, 0) := fun h => by
              rw [E.out, if_pos (by rw [← hy]; exact h)]
            have ST : Hid _ := stays
            have GO : Hid _ := goes
            clear stays goes hj hy ho hb hY E HLast
            obtain ⟨c0, c1, c2, c3, c4, c5, c6, f0, f1, f2, d0, d1, d2, d3, g0, g1, g2, g3⟩ := HZ.out.1.cells
            cases o
            case true =>
              have E2 := ST.out (.inl rfl)
              have EE : Hid _ := E2
              clear E2
              go_wp2
              exact bodyPost_ret (v := .tuple #[hltV (.slice q2 j e2) true u t, .bool false, .int .i64 0]) ((HZ.out.1.set _ _ _ _).res Try.results13 rfl rfl rfl) rfl (hpost_of EE.out HZ.out.2.2.1 (bsAt_own (base := w5.heap.size) (by rw [← HZ.out.2.2.1]; exact own_set4 HZ.out.2.1 HZ.out.2.2.2)) (HZ.out.1.set _ _ _ _).bel)
            case false =>
              cases may
              case false =>
                have E2 := ST.out (.inr (.inl rfl))
                have EE : Hid _ := E2
                clear E2
                go_wp2
                exact bodyPost_ret (v := .tuple #[hltV (.slice q2 j e2) false u t, .bool false, .int .i64 0]) ((HZ.out.1.set _ _ _ _).res Try.results13 rfl rfl rfl) rfl (hpost_of EE.out HZ.out.2.2.1 (bsAt_own (base := w5.heap.size) (by rw [← HZ.out.2.2.1]; exact own_set4 HZ.out.2.1 HZ.out.2.2.2)) (HZ.out.1.set _ _ _ _).bel)
              case true =>
                cases hm : decide (f ≤ (y : Int))
                case false =>
                  have E2 := ST.out (.inr (.inr (of_decide_eq_false hm)))
                  have EE : Hid _ := E2
                  clear E2
                  go_wp2
                  exact bodyPost_ret (v := .tuple #[hltV (.slice q2 j e2) false u t, .bool false, .int .i64 0]) ((HZ.out.1.set _ _ _ _).res Try.results13 rfl rfl rfl) rfl (hpost_of EE.out HZ.out.2.2.1 (bsAt_own (base := w5.heap.size) (by rw [← HZ.out.2.2.1]; exact own_set4 HZ.out.2.1 HZ.out.2.2.2)) (HZ.out.1.set _ _ _ _).bel)
                case true =>
                  have EE : Hid _ := GO.out ⟨rfl, rfl, of_decide_eq_true hm⟩
                  have HT : Hid (∀ W, _) := fun W => holdOf_any d t W OK.out.1.2.2 OK.out.2.2.2.1
                  obtain ⟨t0, t1⟩ := OK.out.2.2.2.1
                  obtain ⟨n0, n1⟩ := OK.out.2.1
                  have hv0 : 0 ≤ holdV d t ∧ holdV d t ≤ 500 := by
                    unfold holdV
                    have : 0 ≤ d * 2 ^ t.toNat := Int.mul_nonneg (by have := OK.out.1.2.2.1; omega) (Int.pow_nonneg (by decide))
                    omega
                  generalize holdV d t = hu at *
                  obtain ⟨v0, v1⟩ := hv0
                  by_cases ht : 10 < t + 1
                  · have E4 : Hid (min (t + 1) 10 = 10) := (by omega : min (t + 1) 10 = 10)
                    go_wp2_with fail
                    refine (HT.out _).mono ?_
                    rintro r w7 ⟨rfl, rfl⟩
                    go_wp2
                    exact bodyPost_ret (v := .tuple #[hltV (.slice none 0 0) true (now + hu) 10, .bool true, .int .i64 0]) ((HZ.out.1.set _ _ _ _).res Try.results13 rfl rfl rfl) rfl (hpost_nil (by rw [← E4.out]; exact EE.out) (HZ.out.1.set _ _ _ _).bel)
                  · have E4 : Hid (min (t + 1) 10 = t + 1) := (by omega : min (t + 1) 10 = t + 1)
                    go_wp2_with fail
                    refine (HT.out _).mono ?_
                    rintro r w7 ⟨rfl, rfl⟩
                    go_wp2
                    exact bodyPost_ret (v := .tuple #[hltV (.slice none 0 0) true (now + hu) (t + 1), .bool true, .int .i64 0]) ((HZ.out.1.set _ _ _ _).res Try.results13 rfl rfl rfl) rfl (hpost_nil (by rw [← E4.out]; exact EE.out) (HZ.out.1.set _ _ _ _).bel)
end Go.Proofs.Ytofnhdkcadoiiaa.Walks
