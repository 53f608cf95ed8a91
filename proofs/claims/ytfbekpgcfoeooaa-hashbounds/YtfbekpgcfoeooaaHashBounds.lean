/-
  HashBounds is true at every three numbers: places of keys and of spots are numbers of 32 bits, and a spot beyond the last one is refused. No condition.
-/
import Derived.Test.YtfbekpgcfoeooaaRows
import Derived.WalkKit
import Derived.ProofKit
import Derived.OpenShut
import Derived.Test.YtfbekpgcfoeooaaMix
namespace Go.Proofs.Ytfbekpgcfoeooaa.hashBounds
open Go.ChangeShapes Go.WideShapes Go.ChangeAt Go.RowKit
open Go.Proofs.Ytfbekpgcfoeooaa.Plain Go.Proofs.Ytfbekpgcfoeooaa.Walks
set_option linter.unusedVariables false

theorem own : ownKnob Try.prog.godebug = none := by kernel_rfl

set_option maxRecDepth 100000 in
set_option maxHeartbeats 800000 in
theorem walk (a0 : Int) (a1 : Int) (a2 : Int) (w0 : (Lit.int .i64 a0).wf = true) (w1 : (Lit.int .i64 a1).wf = true) (w2 : (Lit.int .i64 a2).wf = true) (w : World) :
    Calls Try.prog 6 #[.int .i64 a0, .int .i64 a1, .int .i64 a2] w fun e w' => e = .returned (.bool true) ∧ Grown w w' := by
  obtain ⟨p0, q0⟩ := bounds_i64 w0
  obtain ⟨p1, q1⟩ := bounds_i64 w1
  obtain ⟨p2, q2⟩ := bounds_i64 w2
  clear w0 w1 w2
  go_enter Try.func6, Try.ntmps6
  go_wp2_with fail
  refine (picked_any _ _ _ p0 q0 (by omega) (by omega)).mono ?_
  rintro e w1 ⟨rfl, rfl⟩
  have hk := pick_lt a0 (4294967296 : Int).toNat (by omega)
  generalize pick a0 (4294967296 : Int).toNat = k at *
  go_wp2_with fail
  refine (key_any _ _ (by omega)).mono ?_
  rintro e w2 ⟨rfl, hg1⟩
  have hx : keyMix k < 4294967296 := mixOf_lt _
  generalize keyMix k = x at *
  go_wp2_with fail
  refine (picked_any _ _ _ p1 q1 (by omega) (by omega)).mono ?_
  rintro e w3 ⟨rfl, rfl⟩
  have hb := pick_lt a1 (12 : Int).toNat (by omega)
  generalize pick a1 (12 : Int).toNat = b at *
  go_wp2_with fail
  refine (picked_any _ _ _ p2 q2 (by omega) (by omega)).mono ?_
  rintro e w4 ⟨rfl, rfl⟩
  have hi := pick_lt a2 (32 : Int).toNat (by omega)
  generalize pick a2 (32 : Int).toNat = i at *
  go_wp2_with fail
  refine (spot_any _ _ _ (by omega) (by omega)).mono ?_
  rintro e w5 ⟨rfl, hg2⟩
  have hy : spotMix b i < 4294967296 := mixOf_lt _
  generalize spotMix b i = y at *
  go_wp2_with fail
  refine (picked_any _ _ _ p1 q1 (by omega) (by omega)).mono ?_
  rintro e w6 ⟨rfl, rfl⟩
  have hc := pick_lt a1 (12 : Int).toNat (by omega)
  generalize pick a1 (12 : Int).toNat = c at *
  go_wp2_with fail
  refine (picked_any _ _ _ p2 q2 (by omega) (by omega)).mono ?_
  rintro e w7 ⟨rfl, rfl⟩
  have hj := pick_lt a2 (1000 : Int).toNat (by omega)
  generalize pick a2 (1000 : Int).toNat = j at *
  go_wp2_with fail
  refine (spot_out _ _ _ (by omega)).mono ?_
  rintro e w8 ⟨rfl, rfl⟩
  have b1 : decide (0 ≤ (x : Int)) = true := by simp
  have b2 : decide ((x : Int) < 4294967296) = true := by simp; omega
  have b3 : decide (0 ≤ (y : Int)) = true := by simp
  have b4 : decide ((y : Int) < 4294967296) = true := by simp; omega
  clear hk hx hb hi hy hc hj
  go_wp2
  go_ret
  exact ⟨rfl, grown_trans hg1 hg2⟩

set_option maxRecDepth 100000 in
theorem lifted (os : Os) (started : os.Started) (H : Type) (enc : TypeId × Value → H) :
    ReturnsInHanded {} Try.checked os 6 .any (Rows.hashBoundsSpec.pre6 enc Try.prog Try.f6 Rows.hashBoundsRow.domain false) (Rows.hashBoundsSpec.post enc Try.prog Try.f6 false true false false) := by
  refine returnsInHanded_of_change (C := Try.checked) own started (by kernel_rfl) Try.func6
    (ChangeSpec.witness6 (enc := enc) (C := Try.checked) false ⟨#[], #[.int .i64 0, .int .i64 0, .int .i64 0], []⟩ 8 (by kernel_rfl) (by kernel_rfl) (by kernel_rfl) (by kernel_rfl)) ?_
  intro W base args ds gs before hval0 hW hcnd _
  have hval : ∀ (j : Nat) t v, Try.f6.params[j]? = some t → args[j]? = some v → Value.okWide Try.prog W .any base t v := hval0
  have hW' := hW
  obtain ⟨p, q, hA0, hV, rfl, hfz, hnd⟩ := hW
  have hA : DataW.TrodAll enc Try.prog W 0 (fun _ => true) true Try.f6.params.toList args.toList ds p := hA0
  rw [Try.params6] at hA hval
  obtain ⟨v0, vs0, d0, ds0, p0, q0, hargs, rfl, rfl, h0, r0⟩ := trodAll_cons hA
  obtain ⟨v1, vs1, d1, ds1, p1, q1, rfl, rfl, rfl, h1, r1⟩ := trodAll_cons r0
  obtain ⟨v2, vs2, d2, ds2, p2, q2, rfl, rfl, rfl, h2, r2⟩ := trodAll_cons r1
  obtain ⟨rfl, rfl, rfl⟩ := trodAll_nil r2
  obtain rfl : args = #[v0, v1, v2] := by cases args; simp_all
  obtain ⟨rfl, rfl⟩ := trodVars_none hV
  obtain ⟨a0, rfl, rfl, rfl, w0⟩ := open_int Try.underlying3 (hval 0 3 v0 rfl rfl) h0
  obtain ⟨a1, rfl, rfl, rfl, w1⟩ := open_int Try.underlying3 (hval 1 3 v1 rfl rfl) h1
  obtain ⟨a2, rfl, rfl, rfl, w2⟩ := open_int Try.underlying3 (hval 2 3 v2 rfl rfl) h2
  clear hA0 hval0
  simp only [List.append_nil] at hW'
  refine (walk a0 a1 a2 w0 w1 w2 W).mono fun e W' ⟨he, hg⟩ => ?_
  subst he
  exact ⟨_, rfl, post_of_same (pa := []) (pv := []) hW' (fun _ _ _ => (trodAll_cons_mk (shut_bool Try.underlying4 _) trodAll_mk0)) (fun sp _ => (trodAll_cons_mk (shut_int Try.underlying3 w0) (trodAll_cons_mk (shut_int Try.underlying3 w1) (trodAll_cons_mk (shut_int Try.underlying3 w2) trodAll_mk0)))) (fun _ _ => rfl) rfl
    (hg.frame _) hg.2.1 (ok_one (by kernel_rfl) rfl (okWide_bool_mk Try.underlying4 _))⟩

theorem over : Rows.hashBoundsRow.holds Try.pinned (OpenSpec.ofChange Rows.hashBoundsSpec) :=
  OpenClaim.holds_of_wide 6 Try.f6 rfl rfl rfl rfl rfl rfl rfl ⟨rfl, rfl, rfl, rfl, rfl⟩ rfl rfl rfl rfl rfl (by kernel_rfl) Try.func6 (by kernel_rfl)
    (of_decide_eq_true (by kernel_rfl)) (by unfold Func.isWrapper; first | (rw [if_pos (by decide +kernel)]; kernel_rfl) | (rw [if_neg (by decide +kernel)]; exact ⟨rfl, rfl⟩))
    (fun os started H enc _ => lifted os started H enc)

theorem proved : Rows.HashBoundsSaid :=
  over
#print axioms proved
end Go.Proofs.Ytfbekpgcfoeooaa.hashBounds
