/-
  For every event Encode answers what the document's EventBytes answers, and the argument reads as it did. No condition.
-/
import Derived.Test.YtcafnliedkhjmaaRows
import Derived.Test.YtcafnliedkhjmaaOpen
import Derived.Test.YtcafnliedkhjmaaBytes
import Derived.WalkKit
import Derived.ProofKit
import Derived.OpenShut
import Derived.ShutString
import Derived.ChangeOld
import Derived.Below
namespace Go.Proofs.Ytcafnliedkhjmaa.wireEncodes
open Go.ChangeShapes Go.WideShapes Go.ChangeAt Go.RowKit
open Go.ChangeMaps (open_string shut_string)
open Go.Proofs.Ytcafnliedkhjmaa.Plain Go.Proofs.Ytcafnliedkhjmaa.Walks Go.Proofs.Ytcafnliedkhjmaa.Opens
set_option linter.unusedVariables false

theorem own : ownKnob Try.prog.godebug = none := by kernel_rfl
theorem laidOut : laidOutB Try.prog = true := by kernel_rfl

set_option maxHeartbeats 400000 in
theorem walk (e : Ev) {w : World} :
    Calls Try.prog 4 #[.agg #[.int .i64 e.kind, .int .i64 e.key, .int .i64 e.slot, .int .i64 e.gen, .bool e.good, .int .i64 e.req, .int .i64 e.be, .int .i64 e.wt]] w fun r w' => r = .returned (.bool true) ∧ Below w.heap.size w w' := by
  by_cases hf : fault e = 0
  · go_enter Try.func4, Try.ntmps4
    go_wp2_with fail
    refine (encode_ok e _ hf).mono ?_
    rintro r w1 ⟨v, rfl, hown1, hb1⟩
    have hE1 : EvAt w1 w.heap.size e := EvAt.below (heap_new w _) hb1 (by simp)
    obtain ⟨e0, e1, e2, e3, e4, e5, e6, e7⟩ := hE1.all
    go_wp2_with fail
    refine (bytes_ok e _ hf).mono ?_
    rintro r w2 ⟨u, rfl, hown2, hb2⟩
    have hB1 := bytesAt_owned (owns_below hown1 hb2)
    have hB2 := bytesAt_owned hown2
    have HB : Hid (Below w.heap.size w w2) := ((Below.refl _ _).alloc (Nat.le_refl _) _).trans ((below_tr hb1 hb2).mono (by simp))
    have HS : Hid (_ ∧ _) := ⟨hB1, hB2⟩
    clear hb1 hb2 hown1 hown2 hB1 hB2 hE1 e0 e1 e2 e3 e4 e5 e6 e7 hf
    go_wp2_with fail
    refine (same_yes v u (encEv e) w2 HS.out.1 HS.out.2).mono ?_
    rintro r w3 ⟨rfl, rfl⟩
    go_wp2
    go_ret
    exact ⟨rfl, HB.out⟩
  · obtain ⟨x, hx⟩ : ∃ x, x = fault e := ⟨_, rfl⟩
    have hne := hf
    go_enter Try.func4, Try.ntmps4
    go_wp2_with fail
    refine (encode_bad e _ hne).mono ?_
    rintro r w1 ⟨rfl, hb1⟩
    have hE1 : EvAt w1 w.heap.size e := EvAt.below (heap_new w _) hb1 (by simp)
    obtain ⟨e0, e1, e2, e3, e4, e5, e6, e7⟩ := hE1.all
    have HX : Hid (x = fault e ∧ ¬ fault e = 0) := ⟨hx, hf⟩
    rw [← hx]
    clear hx hf hne
    go_wp2_with fail
    refine (bytes_bad e _ HX.out.2).mono ?_
    rintro r w2 ⟨rfl, hb2⟩
    rw [← HX.out.1]
    have HB : Hid (Below w.heap.size w w2) := ((Below.refl _ _).alloc (Nat.le_refl _) _).trans ((below_tr hb1 hb2).mono (by simp))
    clear hb1 hb2 hE1 e0 e1 e2 e3 e4 e5 e6 e7
    go_wp2_with fail
    refine (same_yes _ _ [] w2 ⟨none, 0, rfl, Nat.le_refl _, .inl ⟨rfl, rfl⟩⟩ ⟨none, 0, rfl, Nat.le_refl _, .inl ⟨rfl, rfl⟩⟩).mono ?_
    rintro r w3 ⟨rfl, rfl⟩
    go_wp2
    go_ret
    exact ⟨rfl, HB.out⟩

set_option maxRecDepth 100000 in
theorem lifted (os : Os) (started : os.Started) (H : Type) (enc : TypeId × Value → H) :
    ReturnsInHanded {} Try.checked os 4 .any (Rows.wireEncodesSpec.pre6 enc Try.prog Try.f4 Rows.wireEncodesRow.domain false) (Rows.wireEncodesSpec.post enc Try.prog Try.f4 false true false false) := by
  refine returnsInHanded_of_change (C := Try.checked) own started (by kernel_rfl) Try.func4
    (ChangeSpec.witness6 (enc := enc) (C := Try.checked) false ⟨#[], #[.agg #[.int .i64 0, .int .i64 0, .int .i64 0, .int .i64 0, .bool false, .int .i64 0, .int .i64 0, .int .i64 0]], []⟩ 8 (by kernel_rfl) (by kernel_rfl) (by kernel_rfl) (by kernel_rfl)) ?_
  intro W base args ds gs before hval0 hW hcnd _
  have hval : ∀ (j : Nat) t v, Try.f4.params[j]? = some t → args[j]? = some v → Value.okWide Try.prog W .any base t v := hval0
  have hW' := hW
  obtain ⟨p, q, hA0, hV, rfl, hfz, hnd⟩ := hW
  have hA : DataW.TrodAll enc Try.prog W 0 (fun _ => true) true Try.f4.params.toList args.toList ds p := hA0
  rw [Try.params4] at hA hval
  obtain ⟨v0, vs0, d0, ds0, p0, q0, hargs, rfl, rfl, h0, r0⟩ := trodAll_cons hA
  obtain ⟨rfl, rfl, rfl⟩ := trodAll_nil r0
  obtain rfl : args = #[v0] := by cases args; simp_all
  obtain ⟨rfl, rfl⟩ := trodVars_none hV
  have k0 := h0
  have lt0 : ∀ x ∈ p0, x.block < W.heap.size := by obtain ⟨m, hm⟩ := k0; exact DataW.trod_lt m _ _ _ hm
  obtain ⟨e0, rfl⟩ := open_event (hval 0 23 v0 rfl rfl) h0
  clear hA0 hval0
  refine (walk e0 (w := W)).mono fun e W' ⟨he, bel⟩ => ?_
  subst he
  exact ⟨_, rfl, _, _, _, [], _, [], hW', trodAll_mk1 (shut_bool Try.underlying4 _), (trodAll_cons_mk (Below.trod laidOut (by kernel_rfl) (of_decide_eq_true (by kernel_rfl)) k0 bel lt0) trodAll_mk0), rfl, bel.frame _, fun h => by cases h⟩

theorem over : Rows.wireEncodesRow.holds Try.pinned (OpenSpec.ofChange Rows.wireEncodesSpec) :=
  OpenClaim.holds_of_wide 4 Try.f4 rfl rfl rfl rfl rfl rfl rfl ⟨rfl, rfl, rfl, rfl, rfl⟩ rfl rfl rfl rfl rfl (by kernel_rfl) Try.func4 (by kernel_rfl)
    (of_decide_eq_true (by kernel_rfl)) (by unfold Func.isWrapper; first | (rw [if_pos (by decide +kernel)]; kernel_rfl) | (rw [if_neg (by decide +kernel)]; exact ⟨rfl, rfl⟩))
    (fun os started H enc _ => lifted os started H enc)

theorem proved : Rows.WireEncodesSaid :=
  over
#print axioms proved
end Go.Proofs.Ytcafnliedkhjmaa.wireEncodes
