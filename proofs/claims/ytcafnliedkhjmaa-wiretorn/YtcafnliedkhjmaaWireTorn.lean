/-
  An event that is torn at whatever place is none, nor is one with a byte behind it: Decode answers ErrShort and ErrForm. No condition.
-/
import Derived.Test.YtcafnliedkhjmaaRows
import Derived.Test.YtcafnliedkhjmaaOpen
import Derived.Test.YtcafnliedkhjmaaRaw
import Derived.WalkKit
import Derived.ProofKit
import Derived.OpenShut
import Derived.ShutString
import Derived.ChangeOld
import Derived.Below
namespace Go.Proofs.Ytcafnliedkhjmaa.wireTorn
open Go.ChangeShapes Go.WideShapes Go.ChangeAt Go.RowKit
open Go.ChangeMaps (open_string shut_string)
open Go.Proofs.Ytcafnliedkhjmaa.Plain Go.Proofs.Ytcafnliedkhjmaa.Walks Go.Proofs.Ytcafnliedkhjmaa.Opens
set_option linter.unusedVariables false

theorem own : ownKnob Try.prog.godebug = none := by kernel_rfl
theorem laidOut : laidOutB Try.prog = true := by kernel_rfl

theorem bytes_take {w : World} {v : Value} {g cap : Nat} {l : List Nat} (h : BytesAt w (.slice (some ⟨g, 0, none⟩) l.length cap) l) (j : Nat) (hj : j ≤ l.length) : BytesAt w (.slice (some ⟨g, 0, none⟩) j cap) (l.take j) := by
  obtain ⟨a, c, hv, hc, h⟩ := h
  simp only [Value.slice.injEq, true_and] at hv
  obtain ⟨rfl, rfl⟩ := hv
  have hl : (l.take j).length = j := by rw [List.length_take]; omega
  refine ⟨_, cap, by rw [hl], by omega, ?_⟩
  by_cases hj0 : j = 0
  · exact .inr (.inl (by rw [hj0]; rfl))
  · rcases h with ⟨h, _⟩ | h | ⟨b, off, h1, h2, h3⟩
    · cases h
    · rw [h] at hj; simp at hj; omega
    · refine .inr (.inr ⟨b, off, h1, h2, fun i hi => ?_⟩)
      rw [hl] at hi
      rw [h3 i (by omega), take_getD' _ _ _ hi]

theorem fits_u8 {n : Int} (h : (Lit.int .u8 n).wf = true) : ∃ t : Nat, n = (t : Int) ∧ t < 256 := by
  simp [Lit.wf, IntKind.min, IntKind.max, IntKind.signed, IntKind.bits] at h
  exact ⟨n.toNat, by omega, by omega⟩

set_option maxHeartbeats 1000000 in
theorem walk (x y z u : Int) (wx : (Lit.int .i64 x).wf = true) (wy : (Lit.int .i64 y).wf = true) (wz : (Lit.int .i64 z).wf = true) (wu : (Lit.int .i64 u).wf = true) (cut : Int) (wc : (Lit.int .i64 cut).wf = true) (tl : Int) (wt : (Lit.int .u8 tl).wf = true) {w : World} :
    Calls Try.prog 8 #[.agg #[.int .i64 x, .int .i64 y, .int .i64 z, .int .i64 u], .int .i64 cut, .int .u8 tl] w fun r w' => r = .returned (.bool true) ∧ Below w.heap.size w w' := by
  obtain ⟨i0, hi, hz0, hz1, hz2⟩ := info_parts Try.info5
  obtain ⟨t, rfl, ht⟩ := fits_u8 wt
  have hev := fun W => event_any x y z u W (fits_of wx) (fits_of wy) (fits_of wz) (fits_of wu)
  have hok := raw_ok x y z u
  obtain ⟨hb256, hl16, hl1⟩ := raw_bytes x y z u
  generalize raw x y z u = e at *
  simp only [arr] at hev
  have HV : Hid (_ ∧ _ ∧ _ ∧ _ ∧ _) := ⟨hev, hok, hb256, fits_of wc, ht⟩
  clear hev hok hb256 wx wy wz wu wc wt ht
  go_enter Try.func8, Try.ntmps8
  go_wp2_with fail
  refine (HV.out.1 _).mono ?_
  rintro r w1 ⟨rfl, hb1⟩
  have HB1 : Hid (Below w.heap.size w w1) := ((Below.refl _ _).alloc (Nat.le_refl _) _).trans (hb1.mono (by simp))
  clear hb1
  go_wp2_with fail
  refine (encode_ok e _ HV.out.2.1).mono ?_
  rintro r w2 ⟨v, rfl, hown, hb2⟩
  obtain ⟨g, cap, rfl, _, hg2⟩ := hown.form (by omega)
  have hnc : (encEv e).length ≤ cap := by
    obtain ⟨_, ⟨h, _⟩ | ⟨g', c', cur, h, _, _, hn, _⟩⟩ := hown
    · cases h
    · cases h; exact hn
  have HB2 : Hid (_ ∧ _ ∧ _) := ⟨HB1.out.trans (hb2.mono HB1.out.size), bytesAt_owned hown, hown⟩
  clear hown hb2
  obtain ⟨l, hle⟩ : ∃ l, l = encEv e := ⟨_, rfl⟩
  obtain ⟨n, hn⟩ : ∃ n, n = (encEv e).length := ⟨_, rfl⟩
  obtain ⟨j, hj⟩ : ∃ j, pick cut (((encEv e).length : Int).toNat) = j := ⟨_, rfl⟩
  have hjn : j < (encEv e).length := by rw [← hj, Int.toNat_natCast]; exact pick_lt _ _ (by omega)
  have HJ : Hid (_ ∧ _) := ⟨hj, hjn⟩
  rw [← hn] at hl16 hl1 hnc hjn ⊢
  have HN : Hid (_ ∧ _) := ⟨hn, hle⟩
  clear hn hle hj
  have i1 : ((n : Int) == 0) = false := by simp; omega
  have i2 : (j : Int) ≤ (n : Int) := by omega
  have i3 : (n : Int) ≤ (cap : Int) := by omega
  have i4 : (0 : Int) ≤ (j : Int) := by omega
  have i5 : (j : Int) ≤ (cap : Int) := by omega
  have hpk : ∀ W, Calls Try.prog 18 #[.int .i64 cut, .int .i64 (n : Int)] W fun r w' => r = .returned (.int .i64 (j : Int)) ∧ w' = W := fun W =>
    picked_is cut (n : Int) j W HV.out.2.2.2.1 (by rw [HN.out.1]; exact HJ.out.1) (by omega) (by omega)
  have HK : Hid _ := hpk
  clear hpk
  go_wp2_with fail
  refine (HK.out _).mono ?_
  rintro r w2 ⟨rfl, rfl⟩
  obtain ⟨⟨e1, c1⟩, hd1⟩ : ∃ p, dec ((encEv e).take j) = p := ⟨_, rfl⟩
  have hc1 : c1 = 4 := by have := dec_torn HV.out.2.1 j HJ.out.2; rw [hd1] at this; exact this
  subst hc1
  have hv1 := bytes_take (v := .bool true) HB2.out.2.1 j (by have := HJ.out.2; omega)
  have hdc := decode_at _ _ e1 4 _ hd1 hv1 (fun b hb => HV.out.2.2.1 b (List.mem_of_mem_take hb)) (by rw [List.length_take]; omega)
  have HD1 : Hid _ := hdc
  clear hd1 hv1 hdc
  go_wp2_with fail
  refine Calls.mono HD1.out ?_
  rintro r w3 ⟨rfl, hb3⟩
  have HB3 : Hid (_ ∧ _ ∧ _) := ⟨HB2.out.1.trans (hb3.mono HB2.out.1.size), HB2.out.2.1.below hb3, hb3⟩
  have hs3 := HB3.out.1.size
  clear hb3 HD1
  have hsrc : ∀ X, ∀ i q, (bcells (encEv e))[i]? = some q → (w3.alloc X).cell? ((⟨g, 0, none⟩ : Addr).add i) = some q := by
    intro X i q hq
    have h2 := HB2.out.2.2.cells rfl i q hq
    have hl2 : g < w2.heap.size := hg2
    rw [add_none] at h2 ⊢
    rw [((Below.refl w3.heap.size w3).alloc (Nat.le_refl _) X).cell (p := ⟨g, 0 + i, none⟩) (by show g < w3.heap.size; have := HB3.out.2.2.size; omega), HB3.out.2.2.cell (p := ⟨g, 0 + i, none⟩) hl2]
    exact h2
  have HS : Hid _ := hsrc
  clear hsrc
  go_wp2_with (at_builtin; refine wpList_append_own _ rfl _ _ 27 rfl w.heap.size 5 i0 (.int .u8 0) 1 1 Try.underlying27 hi hz0 hz1 hz2 rfl (by decide) _ 0 [] rfl (World.ownsRow_nil _ _ _ _) ⟨g, 0, none⟩ n cap (bcells (encEv e)) rfl (by rw [HN.out.1]; simp [bcells]) (HS.out _) (bcells_one _) (by unfold maxLen; omega) (by omega) (by simp; omega) ?_)
  intro v1 w4 hown4 hgrow4 _
  have hb4 : Below w.heap.size w w4 := (HB3.out.1.alloc hs3 _).grown hgrow4 (by simp; omega) (fun k hk => by cases hk)
  have HB4 : Hid (_ ∧ _) := ⟨hb4, hgrow4⟩
  have hs4 := hb4.size
  clear hb4 hgrow4
  go_wp2_with (at_builtin; refine wpList_append_own _ rfl (.tmp 38) (.tmp 40) 27 rfl w.heap.size 5 i0 (.int .u8 0) 1 1 Try.underlying27 hi hz0 hz1 hz2 rfl (by decide) v1 n (bcells (encEv e)) rfl (hown4.alloc _) ⟨w4.heap.size, 0, none⟩ 1 1 [.int .u8 (t : Int)] rfl rfl (news_one 5) (by intro q hq; simp at hq; subst hq; rfl) (by unfold maxLen; omega) (by omega) (by simp; omega) ?_)
  intro v5 w5 hown5 hgrow5 _
  have hb5 : Below w.heap.size w w5 := (HB4.out.1.alloc hs4 _).grown hgrow5 (by simp; omega) (fun k hk => (hown4.lt k hk).1)
  have hown5' : w5.ownsRow w.heap.size 5 1 v5 (encEv e ++ [t]).length (bcells (encEv e ++ [t])) := by
    have hn := HN.out.1
    rw [hn] at hown5
    simpa [bcells] using hown5
  have hdc := decode_at v5 (encEv e ++ [t]) Ev.zero 3 w5 (dec_tail HV.out.2.1 t) (bytesAt_owned hown5') (fun b hb => by rcases List.mem_append.1 hb with h | h; exact HV.out.2.2.1 b h; simp at h; rw [h]; exact HV.out.2.2.2.2) (by rw [List.length_append]; have := HN.out.1; simp; omega)
  simp only [Ev.zero] at hdc
  have HD2 : Hid (_ ∧ _) := ⟨hdc, hb5⟩
  clear hdc hb5 hown5 hown5' hgrow5 hown4
  go_wp2_with fail
  refine Calls.mono HD2.out.1 ?_
  rintro r w6 ⟨rfl, hb6⟩
  have HB6 : Hid (Below w.heap.size w w6) := HD2.out.2.trans (hb6.mono HD2.out.2.size)
  have hs6 := HB6.out.size
  clear hb6
  go_wp2
  go_ret
  exact ⟨rfl, HB6.out.alloc hs6 _⟩

set_option maxRecDepth 100000 in
theorem lifted (os : Os) (started : os.Started) (H : Type) (enc : TypeId × Value → H) :
    ReturnsInHanded {} Try.checked os 8 .any (Rows.wireTornSpec.pre6 enc Try.prog Try.f8 Rows.wireTornRow.domain false) (Rows.wireTornSpec.post enc Try.prog Try.f8 false true false false) := by
  refine returnsInHanded_of_change (C := Try.checked) own started (by kernel_rfl) Try.func8
    (ChangeSpec.witness6 (enc := enc) (C := Try.checked) false ⟨#[], #[.agg #[.int .i64 0, .int .i64 0, .int .i64 0, .int .i64 0], .int .i64 0, .int .u8 0], []⟩ 8 (by kernel_rfl) (by kernel_rfl) (by kernel_rfl) (by kernel_rfl)) ?_
  intro W base args ds gs before hval0 hW hcnd _
  have hval : ∀ (j : Nat) t v, Try.f8.params[j]? = some t → args[j]? = some v → Value.okWide Try.prog W .any base t v := hval0
  have hW' := hW
  obtain ⟨p, q, hA0, hV, rfl, hfz, hnd⟩ := hW
  have hA : DataW.TrodAll enc Try.prog W 0 (fun _ => true) true Try.f8.params.toList args.toList ds p := hA0
  rw [Try.params8] at hA hval
  obtain ⟨v0, vs0, d0, ds0, p0, q0, hargs, rfl, rfl, h0, r0⟩ := trodAll_cons hA
  obtain ⟨v1, vs1, d1, ds1, p1, q1, rfl, rfl, rfl, h1, r1⟩ := trodAll_cons r0
  obtain ⟨v2, vs2, d2, ds2, p2, q2, rfl, rfl, rfl, h2, r2⟩ := trodAll_cons r1
  obtain ⟨rfl, rfl, rfl⟩ := trodAll_nil r2
  obtain rfl : args = #[v0, v1, v2] := by cases args; simp_all
  obtain ⟨rfl, rfl⟩ := trodVars_none hV
  have k0 := h0
  have lt0 : ∀ x ∈ p0, x.block < W.heap.size := by obtain ⟨m, hm⟩ := k0; exact DataW.trod_lt m _ _ _ hm
  obtain ⟨x0, y0, z0, u0, rfl, wx0, wy0, wz0, wu0⟩ := open_coming (hval 0 36 v0 rfl rfl) h0
  obtain ⟨a1, rfl, rfl, rfl, w1⟩ := open_int Try.underlying3 (hval 1 3 v1 rfl rfl) h1
  obtain ⟨a2, rfl, rfl, rfl, w2⟩ := open_int Try.underlying5 (hval 2 5 v2 rfl rfl) h2
  clear hA0 hval0
  refine (walk x0 y0 z0 u0 wx0 wy0 wz0 wu0 a1 w1 a2 w2 (w := W)).mono fun e W' ⟨he, bel⟩ => ?_
  subst he
  exact ⟨_, rfl, _, _, _, [], _, [], hW', trodAll_mk1 (shut_bool Try.underlying4 _), (trodAll_cons_mk (Below.trod laidOut (by kernel_rfl) (of_decide_eq_true (by kernel_rfl)) k0 bel lt0) (trodAll_cons_mk (shut_int Try.underlying3 w1) (trodAll_cons_mk (shut_int Try.underlying5 w2) trodAll_mk0))), rfl, bel.frame _, fun h => by cases h⟩

theorem over : Rows.wireTornRow.holds Try.pinned (OpenSpec.ofChange Rows.wireTornSpec) :=
  OpenClaim.holds_of_wide 8 Try.f8 rfl rfl rfl rfl rfl rfl rfl ⟨rfl, rfl, rfl, rfl, rfl⟩ rfl rfl rfl rfl rfl (by kernel_rfl) Try.func8 (by kernel_rfl)
    (of_decide_eq_true (by kernel_rfl)) (by unfold Func.isWrapper; first | (rw [if_pos (by decide +kernel)]; kernel_rfl) | (rw [if_neg (by decide +kernel)]; exact ⟨rfl, rfl⟩))
    (fun os started H enc _ => lifted os started H enc)

theorem proved : Rows.WireTornSaid :=
  over
#print axioms proved
end Go.Proofs.Ytcafnliedkhjmaa.wireTorn
