/-
  CoreBegin: a config of such numbers is right, and a world begins with nothing in it. No condition but that the numbers are an int's.
-/
import Derived.Test.YtbabcpdcgncigaaCfn
import Derived.Test.YtbabcpdcgncigaaOpensC
import Derived.WalkKit
import Derived.ProofKit
import Derived.Handy
import Derived.LoopTactic
import Derived.Below
import Derived.Laws.BitsAllLaws
import Derived.RegionTactic
import Derived.Deep.RegionHeld3
import Derived.Deep.DrawnRows
import Derived.Deep.AppendLies
import Derived.Laws.OwnMore
import Derived.Deep.Onto
import Derived.Deep.QuietTactic
import Derived.BigQuiet
namespace Go.Proofs.Ytbabcpdcgncigaa.Walks
open Go.RowKit
set_option linter.unusedVariables false
set_option linter.unusedSimpArgs false
attribute [local go_sem ↓] Go.wp_at_zero Go.wp_at_succ

theorem wpList_load_yes {P : Program} {ops : Array Oper} {rest : List Oper} {op : Oper} {a : Act} {w : World} {Q : Exit → Act → World → Prop} (hw : Region.wanted op (yielded ops a.tmps) = true) (ty : TypeId) (x : Operand) (ho : op.op = .load ty x)
    (b o : Nat) (hx : a.eval x = .pointer (some ⟨b, o, none⟩)) (cs : List Value) (d : TypeDesc) (hc : w.rangeAt b o cs) (hu : P.underlying ty = some d) (hd : d.isRow = true) (hi : (P.info? ty).map (·.size) = some cs.length)
    (h : wpList P ops Q rest (a.put op.dst (.agg cs.toArray)) w) : wpList P ops Q (op :: rest) a w :=
  wpList_step fun _ hK => by
    rw [if_pos hw]
    exact wp_load_mid ty x ho b o hx cs d hc hu hd hi (hK _ _ h)

theorem infoCg : (Try.prog.info? 27).map (·.size) = some 16 := by kernel_rfl

abbrev zcL : List Value := [.int .i64 0, .int .i64 0, .int .i64 0, .int .i64 0, .int .i64 0, .int .i64 0, .int .i64 0, .int .i64 0, .int .i64 0, .int .i64 0, .int .i64 0, .int .i64 0, .int .i64 0, .int .i64 0, .int .i64 0, .int .i64 0]

theorem infoSt : (Try.prog.info? 55).map (·.size) = some 16 := by kernel_rfl

set_option maxHeartbeats 4000000 in
set_option maxRecDepth 100000 in
theorem eqCf (c : Cf) (W : World) : (binOp .eql 27 (cfA c) (cfA c)).run Try.prog W = .ok (.bool true) W := by go_simp

/-- The world's cells that the law reads. -/
theorem wb_reads {w : World} {g : Nat} {c : Cf} {vt vh : Value} {tok : Int} {vw : Value} (h : w.heap[g]? = some (.cells (wdL c vt vh tok vw).toArray 49 (0, 0))) : w.cell? ⟨g, 16, none⟩ = some (.int .i64 0) ∧ w.cell? ⟨g, 17, none⟩ = some vt ∧ w.cell? ⟨g, 18, none⟩ = some (.slice none 0 0) ∧ w.cell? ⟨g, 22, none⟩ = some vh ∧ w.cell? ⟨g, 23, none⟩ = some (.int .i64 tok) ∧ g < w.heap.size :=
  ⟨by rw [cell_of_row w g 16 _ _ (0, 0) h]; rfl, by rw [cell_of_row w g 17 _ _ (0, 0) h]; rfl, by rw [cell_of_row w g 18 _ _ (0, 0) h]; rfl, by rw [cell_of_row w g 22 _ _ (0, 0) h]; rfl, by rw [cell_of_row w g 23 _ _ (0, 0) h]; rfl, (Array.getElem?_eq_some_iff.1 h).1⟩

theorem sl_formB {w : World} {v : Value} {l : List Tb.Sl} (h : Tb.SlAt w v l) : ∃ p c, v = .slice p l.length c := by
  obtain ⟨a, cap, rfl, _⟩ := h.parts
  exact ⟨a, cap, rfl⟩

set_option maxHeartbeats 16000000 in
set_option maxRecDepth 100000 in
theorem coreBegin_row (s : Cf) (hs : CfWf s) (w : World) :
    Calls Try.prog 5 #[cfA s] w fun r w' => r = .returned (.bool true) ∧ Below w.heap.size w w' := by
  obtain ⟨f, rfl, hf⟩ := hs
  obtain ⟨c, hc, hcon⟩ := config_some (f 0) (f 1) (f 2) (f 3) (f 4) (f 5) (f 6) (f 7) (f 8) (f 9) (f 10) (f 11) (f 12) (f 13) (f 14) (f 15) (hf 0 (by omega)) (hf 1 (by omega)) (hf 2 (by omega)) (hf 3 (by omega)) (hf 4 (by omega)) (hf 5 (by omega)) (hf 6 (by omega)) (hf 7 (by omega)) (hf 8 (by omega)) (hf 9 (by omega)) (hf 10 (by omega)) (hf 11 (by omega)) (hf 12 (by omega)) (hf 13 (by omega)) (hf 14 (by omega)) (hf 15 (by omega))
  obtain ⟨L, hL⟩ : ∃ L : List Value, L = [.int .i64 (f 0), .int .i64 (f 1), .int .i64 (f 2), .int .i64 (f 3), .int .i64 (f 4), .int .i64 (f 5), .int .i64 (f 6), .int .i64 (f 7), .int .i64 (f 8), .int .i64 (f 9), .int .i64 (f 10), .int .i64 (f 11), .int .i64 (f 12), .int .i64 (f 13), .int .i64 (f 14), .int .i64 (f 15)] := ⟨_, rfl⟩
  have hLl : L.length = 16 := by rw [hL]; rfl
  obtain ⟨K, hK⟩ : ∃ K : List Value, K = [.int .i64 c.flows, .int .i64 c.num, .int .i64 c.den, .int .i64 c.tries, .int .i64 c.warm, .int .i64 c.drain, .int .i64 c.idle, .int .i64 c.conn, .int .i64 c.ret, .int .i64 c.most, .int .i64 c.bn, .int .i64 c.bd, .int .i64 c.bb, .int .i64 c.wn, .int .i64 c.wf, .int .i64 c.wh] := ⟨_, rfl⟩
  have hKl : K.length = 16 := by rw [hK]; rfl
  have hKa : K.toArray = [.int .i64 c.flows, .int .i64 c.num, .int .i64 c.den, .int .i64 c.tries, .int .i64 c.warm, .int .i64 c.drain, .int .i64 c.idle, .int .i64 c.conn, .int .i64 c.ret, .int .i64 c.most, .int .i64 c.bn, .int .i64 c.bd, .int .i64 c.bb, .int .i64 c.wn, .int .i64 c.wf, .int .i64 c.wh].toArray := by rw [hK]
  have HC : Hid (∀ W : World, Calls Try.prog 11 #[.agg L.toArray] W fun r w' => r = .returned (.agg K.toArray) ∧ Below W.heap.size W w') := fun W => by rw [hL, hK]; exact hcon W
  have HB : Hid (∀ W : World, Calls Try.prog 8 #[.agg K.toArray] W (BegRes c W)) := fun W => by rw [hK]; exact begin_ok c W hc.ok
  have HE : Hid (∀ W : World, Calls Try.prog 6 #[.agg K.toArray] W fun r w' => r = .returned (.int .i64 0) ∧ Below W.heap.size W w') := fun W => by
    have := check_any c W
    rw [show cfE c = 0 from if_pos hc.ok] at this
    rw [hK]
    exact this
  have heq : ∀ W : World, (binOp .eql 27 (.agg K.toArray) (.agg K.toArray)).run Try.prog W = .ok (.bool true) W := fun W => by rw [hK]; exact eqCf c W
  have hKo : K.toArray.all (·.oneCell') = true := by
    rw [hK]
    exact all_ints [c.flows, c.num, c.den, c.tries, c.warm, c.drain, c.idle, c.conn, c.ret, c.most, c.bn, c.bd, c.bb, c.wn, c.wf, c.wh]
  show Calls Try.prog 5 #[.agg (List.toArray [.int .i64 (f 0), .int .i64 (f 1), .int .i64 (f 2), .int .i64 (f 3), .int .i64 (f 4), .int .i64 (f 5), .int .i64 (f 6), .int .i64 (f 7), .int .i64 (f 8), .int .i64 (f 9), .int .i64 (f 10), .int .i64 (f 11), .int .i64 (f 12), .int .i64 (f 13), .int .i64 (f 14), .int .i64 (f 15)])] w _
  rw [← hL]
  have hbud := hc.ok.2.2.2.2.2.2.2.2.2.2.1
  have hfl := hc.ok.1
  have HI : Hid (_ ∧ _ ∧ _ ∧ _) := ⟨hLl, hKl, hK, hKo⟩
  have HK : Hid (_ ∧ _ ∧ _) := ⟨hc.ok, hbud, hfl⟩
  obtain ⟨W0, hW0⟩ : ∃ W0, W0 = w.alloc (.cells L.toArray 55) := ⟨_, rfl⟩
  have hb0 : Below w.heap.size w W0 := by rw [hW0]; exact below_new w
  have H0 : Hid _ := hb0
  clear hL hLl hcon hc hf hb0 hbud hfl hK hKl hKa hKo
  go_enter Try.func5, Try.ntmps5
  go_wp2_with ((with_reducible refine wpList_load_mid rfl 55 (.tmp 1) rfl w.heap.size 0 ?gx L _ ?gc Try.underlying55 ?gd ?gi ?_); (case gx => rfl); (case gc => exact range_of (heap_alloc_new _ _)); (case gd => rfl); (case gi => rw [HI.out.1]; exact infoSt))
  rw [← hW0]
  clear hW0
  refine (HC.out _).mono ?_
  rintro r w1 ⟨rfl, hb1⟩
  obtain ⟨W1, hW1⟩ : ∃ W1, W1 = (w1.alloc (.cells zcL.toArray 27)).setCells w1.heap.size 0 K := ⟨_, rfl⟩
  have hZ1 : (w1.alloc (.cells zcL.toArray 27)).heap[w1.heap.size]? = some (.cells zcL.toArray 27 (0, 0)) := heap_alloc_new _ _
  have hbW1 : Below w1.heap.size w1 W1 := by rw [hW1]; exact below_setCells (below_new w1) (Nat.le_refl _) _ _ (by simp)
  have hR1 : W1.heap[w1.heap.size]? = some (.cells K.toArray 27 (0, 0)) := by rw [hW1]; exact box_stored hZ1 (by rw [HI.out.2.1]; rfl)
  have hth1 : (w1.alloc (.cells zcL.toArray 27)).there w1.heap.size 0 K.toArray.size := by
    have := box_there hZ1
    have hsz : K.toArray.size = 16 := (show K.toArray.size = K.length from List.size_toArray).trans HI.out.2.1
    rw [hsz]
    exact this
  have H1 : Hid (_ ∧ _ ∧ _ ∧ _) := ⟨(H0.out.trans (hb1.mono H0.out.size)).trans (hbW1.mono (Nat.le_trans H0.out.size hb1.size)), hR1, hth1, hW1⟩
  clear hb1 hbW1 hR1 hW1 hZ1 hth1
  go_wp2_with (first | ((with_reducible refine wpList_store_mid rfl 27 (.tmp 3) (.tmp 7) rfl w1.heap.size 0 K.toArray ?sx ?sy ?st ?si ?s1 ?_); (case sx => rfl); (case sy => rfl); (case st => exact H1.out.2.2.1); (case si => rw [List.size_toArray, HI.out.2.1]; exact infoCg); (case s1 => exact HI.out.2.2.2); rw [List.toList_toArray, ← H1.out.2.2.2]) | ((with_reducible refine wpList_load_mid rfl 27 (.tmp 3) rfl w1.heap.size 0 ?gx K _ ?gc Try.underlying27 ?gd ?gi ?_); (case gx => rfl); (case gc => exact range_of H1.out.2.1); (case gd => rfl); (case gi => rw [HI.out.2.1]; exact infoCg)))
  refine (HB.out _).mono ?_
  intro r w2 hr
  unfold BegRes at hr
  rw [if_pos HK.out.1] at hr
  obtain ⟨vt, vh, vw, rfl, hA, hb2⟩ := hr
  obtain ⟨pt, ct, rfl⟩ := sl_formB hA.1
  obtain ⟨ph, ch, rfl, _, _⟩ := RvAt.form hA.2.1
  obtain ⟨vs, ⟨pw, cw, rfl, _, _, _⟩, _⟩ := hA.2.2
  obtain ⟨n, hn⟩ : ∃ n, n = (List.replicate c.flows.toNat ((0, false, 0, 0) : Tb.Sl)).length := ⟨_, rfl⟩
  obtain ⟨nw, hnw⟩ : ∃ nw, nw = Wh.bare.length := ⟨_, rfl⟩
  obtain ⟨tok, htok⟩ : ∃ tok, tok = c.bb * c.bd := ⟨_, rfl⟩
  have h12 : (List.replicate 12 ()).length = 12 := by simp
  rw [h12, ← hn, ← hnw, ← htok]
  have hnf : ((n : Int) == c.flows) = true := by
    rw [hn, List.length_replicate]
    have := HK.out.2.2
    simp
    omega
  obtain ⟨W2, hW2⟩ : ∃ W2, W2 = (w2.alloc (.cells wzL.toArray 49)).setCells w2.heap.size 0 (wdL c (.slice pt n ct) (.slice ph 12 ch) tok (.slice pw nw cw)) := ⟨_, rfl⟩
  have hZ2 : (w2.alloc (.cells wzL.toArray 49)).heap[w2.heap.size]? = some (.cells wzL.toArray 49 (0, 0)) := heap_alloc_new _ _
  have hbW2 : Below w2.heap.size w2 W2 := by rw [hW2]; exact below_setCells (below_new w2) (Nat.le_refl _) _ _ (by simp)
  have hG2 : W2.heap[w2.heap.size]? = some (.cells (wdL c (.slice pt n ct) (.slice ph 12 ch) tok (.slice pw nw cw)).toArray 49 (0, 0)) := by rw [hW2]; exact box_stored hZ2 rfl
  have hb12 := hb2.trans (hbW2.mono hb2.size)
  have hR2 := box_below H1.out.2.1 hb12
  have H2 : Hid (_ ∧ _ ∧ _ ∧ _ ∧ _ ∧ _) := ⟨box_there hZ2, wd_one c (.slice pt n ct) (.slice ph 12 ch) tok (.slice pw nw cw) rfl rfl rfl, hW2, hG2, hR2, H1.out.1.trans (hb12.mono H1.out.1.size)⟩
  have HT : Hid _ := htok
  clear hA hn hnw hW2 hZ2 hbW2 hG2 hb12 hR2 hb2 h12 htok
  go_wp2_with (first | ((with_reducible refine wpList_store_mid rfl 49 (.tmp 4) (.tmp 11) rfl w2.heap.size 0 #[.int .i64 c.flows, .int .i64 c.num, .int .i64 c.den, .int .i64 c.tries, .int .i64 c.warm, .int .i64 c.drain, .int .i64 c.idle, .int .i64 c.conn, .int .i64 c.ret, .int .i64 c.most, .int .i64 c.bn, .int .i64 c.bd, .int .i64 c.bb, .int .i64 c.wn, .int .i64 c.wf, .int .i64 c.wh, .int .i64 0, .slice pt n ct, .slice none 0 0, .slice none 0 0, .slice none 0 0, .slice none 0 0, .slice ph 12 ch, .int .i64 tok, .int .i64 0, .slice pw nw cw] ?hx ?hy ?ht ?hi ?h1 ?_); (case hx => rfl); (case hy => rfl); (case ht => exact H2.out.1); (case hi => exact infoW); (case h1 => exact H2.out.2.1); rw [show Array.toList (#[.int .i64 c.flows, .int .i64 c.num, .int .i64 c.den, .int .i64 c.tries, .int .i64 c.warm, .int .i64 c.drain, .int .i64 c.idle, .int .i64 c.conn, .int .i64 c.ret, .int .i64 c.most, .int .i64 c.bn, .int .i64 c.bd, .int .i64 c.bb, .int .i64 c.wn, .int .i64 c.wf, .int .i64 c.wh, .int .i64 0, .slice pt n ct, .slice none 0 0, .slice none 0 0, .slice none 0 0, .slice none 0 0, .slice ph 12 ch, .int .i64 tok, .int .i64 0, .slice pw nw cw] : Array Value) = wdL c (.slice pt n ct) (.slice ph 12 ch) tok (.slice pw nw cw) from rfl]; rw [← H2.out.2.2.1]) | ((with_reducible refine wpList_load_mid rfl 27 (.tmp 3) rfl w1.heap.size 0 ?gx K _ ?gc Try.underlying27 ?gd ?gi ?_); (case gx => rfl); (case gc => exact range_of H2.out.2.2.2.2.1); (case gd => rfl); (case gi => rw [HI.out.2.1]; exact infoCg)))
  refine (HE.out _).mono ?_
  rintro r w3 ⟨rfl, hb3⟩
  have hR3 := box_below H2.out.2.2.2.2.1 hb3
  have hG3 := box_below H2.out.2.2.2.1 hb3
  obtain ⟨q16, q17, q18, q22, q23, qlt⟩ := wb_reads hG3
  have i0 : w3.cell? ⟨w1.heap.size, 0, none⟩ = some (.int .i64 c.flows) := by rw [cell_of_row w3 _ 0 _ _ (0, 0) hR3, HI.out.2.2.1]; rfl
  have i11 : w3.cell? ⟨w1.heap.size, 11, none⟩ = some (.int .i64 c.bd) := by rw [cell_of_row w3 _ 11 _ _ (0, 0) hR3, HI.out.2.2.1]; rfl
  have i12 : w3.cell? ⟨w1.heap.size, 12, none⟩ = some (.int .i64 c.bb) := by rw [cell_of_row w3 _ 12 _ _ (0, 0) hR3, HI.out.2.2.1]; rfl
  have ilt : w1.heap.size < w3.heap.size := (Array.getElem?_eq_some_iff.1 hR3).1
  have hrW : w3.rangeAt w2.heap.size 0 K := fun jj v hv => by
    have hj : jj < 16 := by rw [← HI.out.2.1]; exact (List.getElem?_eq_some_iff.1 hv).1
    rw [Nat.zero_add, cell_of_row w3 _ jj _ _ (0, 0) hG3, ← hv, HI.out.2.2.1]
    have hcs : jj = 0 ∨ jj = 1 ∨ jj = 2 ∨ jj = 3 ∨ jj = 4 ∨ jj = 5 ∨ jj = 6 ∨ jj = 7 ∨ jj = 8 ∨ jj = 9 ∨ jj = 10 ∨ jj = 11 ∨ jj = 12 ∨ jj = 13 ∨ jj = 14 ∨ jj = 15 := by omega
    rcases hcs with rfl | rfl | rfl | rfl | rfl | rfl | rfl | rfl | rfl | rfl | rfl | rfl | rfl | rfl | rfl | rfl <;> rfl
  have hmul : IntKind.i64.wrap (c.bb * c.bd) = c.bb * c.bd := by
    have h1 := HK.out.2.1
    have h2 : 0 ≤ c.bb * c.bd := Int.mul_nonneg (by omega) (by omega)
    have h3 : c.bb * c.bd ≤ 20 * 20 := Int.mul_le_mul (by omega) (by omega) (by omega) (by omega)
    rw [IntKind.wrap_i64]
    omega
  rw [HT.out] at q23
  have H3 : Hid (_ ∧ _ ∧ _) := ⟨H2.out.2.2.2.2.2.trans (hb3.mono H2.out.2.2.2.2.2.size), range_of hR3, hrW⟩
  clear hb3 hR3 hG3 hrW
  go_wp2_with (first | ((with_reducible refine wpList_load_yes ?lw 27 (.tmp 21) rfl w2.heap.size 0 ?lx K _ ?lc Try.underlying27 ?ld ?li ?_); (case lw => rfl); (case lx => rfl); (case lc => exact H3.out.2.2); (case ld => rfl); (case li => rw [HI.out.2.1]; exact infoCg)) | ((with_reducible refine wpList_load_yes ?lw 27 (.tmp 3) rfl w1.heap.size 0 ?lx K _ ?lc Try.underlying27 ?ld ?li ?_); (case lw => rfl); (case lx => rfl); (case lc => exact H3.out.2.1); (case ld => rfl); (case li => rw [HI.out.2.1]; exact infoCg)))
  have HF : Hid _ := check_any cf0 w3
  rw [show cfE cf0 = 2 from rfl] at HF
  refine Calls.mono HF.out ?_
  rintro r w4 ⟨rfl, hb4⟩
  have H4 : Hid _ := H3.out.1.trans (hb4.mono H3.out.1.size)
  clear hb4
  go_wp2
  go_ret
  exact ⟨rfl, H4.out⟩
end Go.Proofs.Ytbabcpdcgncigaa.Walks
