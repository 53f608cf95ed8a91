/-
  For every event that may come, what Encode makes of it Decode reads back, with no error, and it has from 1 to 16 bytes. No condition.
-/
import Derived.Test.YtcafnliedkhjmaaRows
import Derived.Test.YtcafnliedkhjmaaOpen
import Derived.Test.YtcafnliedkhjmaaRaw
import Derived.WalkKit
import Derived.ProofKit
import Derived.OpenShut
import Derived.ShutString
import Derived.ChangeOld
import Derived.Below
namespace Go.Proofs.Ytcafnliedkhjmaa.wireBack
open Go.ChangeShapes Go.WideShapes Go.ChangeAt Go.RowKit
open Go.ChangeMaps (open_string shut_string)
open Go.Proofs.Ytcafnliedkhjmaa.Plain Go.Proofs.Ytcafnliedkhjmaa.Walks Go.Proofs.Ytcafnliedkhjmaa.Opens
set_option linter.unusedVariables false

theorem own : ownKnob Try.prog.godebug = none := by kernel_rfl
theorem laidOut : laidOutB Try.prog = true := by kernel_rfl

set_option maxHeartbeats 1000000 in
theorem walk (x y z u : Int) (wx : (Lit.int .i64 x).wf = true) (wy : (Lit.int .i64 y).wf = true) (wz : (Lit.int .i64 z).wf = true) (wu : (Lit.int .i64 u).wf = true) {w : World} :
    Calls Try.prog 6 #[.agg #[.int .i64 x, .int .i64 y, .int .i64 z, .int .i64 u]] w fun r w' => r = .returned (.bool true) ∧ Below w.heap.size w w' := by
  have hev := fun W => event_any x y z u W (fits_of wx) (fits_of wy) (fits_of wz) (fits_of wu)
  have hok := raw_ok x y z u
  obtain ⟨hb256, hl16, hl1⟩ := raw_bytes x y z u
  generalize raw x y z u = e at *
  simp only [arr] at hev
  have HV : Hid (_ ∧ _ ∧ _) := ⟨hev, hok, hb256⟩
  clear hev hok hb256 wx wy wz wu
  go_enter Try.func6, Try.ntmps6
  go_wp2_with fail
  refine (HV.out.1 _).mono ?_
  rintro r w1 ⟨rfl, hb1⟩
  have HB1 : Hid (Below w.heap.size w w1) := ((Below.refl _ _).alloc (Nat.le_refl _) _).trans (hb1.mono (by simp))
  clear hb1
  go_wp2_with fail
  refine (encode_ok e _ HV.out.2.1).mono ?_
  rintro r w2 ⟨v, rfl, hown, hb2⟩
  obtain ⟨g, cap, rfl, _, hg2⟩ := hown.form (by omega)
  have hE2 : EvAt w2 w1.heap.size e := EvAt.below (heap_new w1 _) hb2 (by simp)
  have HB2 : Hid (_ ∧ _ ∧ _) := ⟨((Below.refl w1.heap.size w1).alloc (Nat.le_refl _) _).trans (hb2.mono (by simp)), bytesAt_owned hown, hE2⟩
  clear hown hb2 hE2
  go_wp2_with fail
  refine (decode_at _ (encEv e) e 0 _ (dec_back HV.out.2.1) HB2.out.2.1 HV.out.2.2 (by omega)).mono ?_
  rintro r w3 ⟨rfl, hb3⟩
  have hE3 : EvAt w3 w1.heap.size e := HB2.out.2.2.below hb3 HB2.out.2.2.lt
  have hl3 := hE3.lt
  obtain ⟨e0, e1, e2, e3, e4, e5, e6, e7⟩ := hE3.all
  have HB3 : Hid (Below w.heap.size w w3) := (HB1.out.trans (HB2.out.1.mono HB1.out.size)).trans (hb3.mono (by have h1 := HB1.out.size; have h2 := HB2.out.1.size; omega))
  clear hb3 hE3
  have i1 : (1 : Int) ≤ ((encEv e).length : Int) := by omega
  have i2 : ((encEv e).length : Int) ≤ 16 := by omega
  generalize (encEv e).length = n at *
  go_wp2
  go_ret
  exact ⟨rfl, HB3.out.alloc HB3.out.size _⟩

set_option maxRecDepth 100000 in
theorem lifted (os : Os) (started : os.Started) (H : Type) (enc : TypeId × Value → H) :
    ReturnsInHanded {} Try.checked os 6 .any (Rows.wireBackSpec.pre6 enc Try.prog Try.f6 Rows.wireBackRow.domain false) (Rows.wireBackSpec.post enc Try.prog Try.f6 false true false false) := by
  refine returnsInHanded_of_change (C := Try.checked) own started (by kernel_rfl) Try.func6
    (ChangeSpec.witness6 (enc := enc) (C := Try.checked) false ⟨#[], #[.agg #[.int .i64 0, .int .i64 0, .int .i64 0, .int .i64 0]], []⟩ 8 (by kernel_rfl) (by kernel_rfl) (by kernel_rfl) (by kernel_rfl)) ?_
  intro W base args ds gs before hval0 hW hcnd _
  have hval : ∀ (j : Nat) t v, Try.f6.params[j]? = some t → args[j]? = some v → Value.okWide Try.prog W .any base t v := hval0
  have hW' := hW
  obtain ⟨p, q, hA0, hV, rfl, hfz, hnd⟩ := hW
  have hA : DataW.TrodAll enc Try.prog W 0 (fun _ => true) true Try.f6.params.toList args.toList ds p := hA0
  rw [Try.params6] at hA hval
  obtain ⟨v0, vs0, d0, ds0, p0, q0, hargs, rfl, rfl, h0, r0⟩ := trodAll_cons hA
  obtain ⟨rfl, rfl, rfl⟩ := trodAll_nil r0
  obtain rfl : args = #[v0] := by cases args; simp_all
  obtain ⟨rfl, rfl⟩ := trodVars_none hV
  have k0 := h0
  have lt0 : ∀ x ∈ p0, x.block < W.heap.size := by obtain ⟨m, hm⟩ := k0; exact DataW.trod_lt m _ _ _ hm
  obtain ⟨x0, y0, z0, u0, rfl, wx0, wy0, wz0, wu0⟩ := open_coming (hval 0 36 v0 rfl rfl) h0
  clear hA0 hval0
  refine (walk x0 y0 z0 u0 wx0 wy0 wz0 wu0 (w := W)).mono fun e W' ⟨he, bel⟩ => ?_
  subst he
  exact ⟨_, rfl, _, _, _, [], _, [], hW', trodAll_mk1 (shut_bool Try.underlying4 _), (trodAll_cons_mk (Below.trod laidOut (by kernel_rfl) (of_decide_eq_true (by kernel_rfl)) k0 bel lt0) trodAll_mk0), rfl, bel.frame _, fun h => by cases h⟩

theorem over : Rows.wireBackRow.holds Try.pinned (OpenSpec.ofChange Rows.wireBackSpec) :=
  OpenClaim.holds_of_wide 6 Try.f6 rfl rfl rfl rfl rfl rfl rfl ⟨rfl, rfl, rfl, rfl, rfl⟩ rfl rfl rfl rfl rfl (by kernel_rfl) Try.func6 (by kernel_rfl)
    (of_decide_eq_true (by kernel_rfl)) (by unfold Func.isWrapper; first | (rw [if_pos (by decide +kernel)]; kernel_rfl) | (rw [if_neg (by decide +kernel)]; exact ⟨rfl, rfl⟩))
    (fun os started H enc _ => lifted os started H enc)

theorem proved : Rows.WireBackSaid :=
  over
#print axioms proved
end Go.Proofs.Ytcafnliedkhjmaa.wireBack
