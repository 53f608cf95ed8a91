/-
  HashSpot is true at every four numbers: two spots of one backend lie apart, and so do those of two backends with the same number. No condition.
-/
import Derived.Test.YtfbekpgcfoeooaaRows
import Derived.WalkKit
import Derived.ProofKit
import Derived.OpenShut
import Derived.Test.YtfbekpgcfoeooaaMix
namespace Go.Proofs.Ytfbekpgcfoeooaa.hashSpot
open Go.ChangeShapes Go.WideShapes Go.ChangeAt Go.RowKit
open Go.Proofs.Ytfbekpgcfoeooaa.Plain Go.Proofs.Ytfbekpgcfoeooaa.Walks
set_option linter.unusedVariables false

theorem own : ownKnob Try.prog.godebug = none := by kernel_rfl

set_option maxHeartbeats 800000 in
theorem walk (a0 : Int) (a1 : Int) (a2 : Int) (a3 : Int) (w0 : (Lit.int .i64 a0).wf = true) (w1 : (Lit.int .i64 a1).wf = true) (w2 : (Lit.int .i64 a2).wf = true) (w3 : (Lit.int .i64 a3).wf = true) (w : World) :
    Calls Try.prog 7 #[.int .i64 a0, .int .i64 a1, .int .i64 a2, .int .i64 a3] w fun e w' => e = .returned (.bool true) ∧ Grown w w' := by
  obtain ⟨p0, q0⟩ := bounds_i64 w0
  obtain ⟨p1, q1⟩ := bounds_i64 w1
  obtain ⟨p2, q2⟩ := bounds_i64 w2
  obtain ⟨p3, q3⟩ := bounds_i64 w3
  clear w0 w1 w2 w3
  go_enter Try.func7, Try.ntmps7
  go_wp2_with fail
  refine (picked_any _ _ _ p0 q0 (by omega) (by omega)).mono ?_
  rintro e w1 ⟨rfl, rfl⟩
  have ha := pick_lt a0 (12 : Int).toNat (by omega)
  generalize pick a0 (12 : Int).toNat = a at *
  go_wp2_with fail
  refine (picked_any _ _ _ p1 q1 (by omega) (by omega)).mono ?_
  rintro e w2 ⟨rfl, rfl⟩
  have hb := pick_lt a1 (12 : Int).toNat (by omega)
  generalize pick a1 (12 : Int).toNat = b at *
  go_wp2_with fail
  refine (picked_any _ _ _ p2 q2 (by omega) (by omega)).mono ?_
  rintro e w3 ⟨rfl, rfl⟩
  have hx := pick_lt a2 (32 : Int).toNat (by omega)
  generalize pick a2 (32 : Int).toNat = x at *
  go_wp2_with fail
  refine (picked_any _ _ _ p3 q3 (by omega) (by omega)).mono ?_
  rintro e w4 ⟨rfl, rfl⟩
  have hy := pick_lt a3 (32 : Int).toNat (by omega)
  generalize pick a3 (32 : Int).toNat = y at *
  clear p0 q0 p1 q1 p2 q2 p3 q3
  have hpq : spotMix a x = spotMix a y ↔ x = y := spot_second a x y (by omega) (by omega)
  have hpr : spotMix a x = spotMix b x ↔ a = b := spot_first a b x (by omega) (by omega) (by omega)
  go_wp2_with fail
  refine (spot_any _ _ _ (by omega) (by omega)).mono ?_
  rintro e w5 ⟨rfl, hg1⟩
  go_wp2_with fail
  refine (spot_any _ _ _ (by omega) (by omega)).mono ?_
  rintro e w6 ⟨rfl, hg2⟩
  go_wp2_with fail
  refine (spot_any _ _ _ (by omega) (by omega)).mono ?_
  rintro e w7 ⟨rfl, hg3⟩
  generalize spotMix a x = p at *
  generalize spotMix a y = q at *
  generalize spotMix b x = r at *
  have e1 : (((p : Int) == (q : Int)) == ((x : Int) == (y : Int))) = true := by
    have t : ((p : Int) == (q : Int)) = ((x : Int) == (y : Int)) := by rw [Bool.eq_iff_iff]; simp; omega
    rw [t]; simp
  have e2 : (((p : Int) == (r : Int)) == ((a : Int) == (b : Int))) = true := by
    have t : ((p : Int) == (r : Int)) = ((a : Int) == (b : Int)) := by rw [Bool.eq_iff_iff]; simp; omega
    rw [t]; simp
  clear hpq hpr
  go_wp2
  go_ret
  exact ⟨rfl, grown_trans hg1 (grown_trans hg2 hg3)⟩

set_option maxRecDepth 100000 in
theorem lifted (os : Os) (started : os.Started) (H : Type) (enc : TypeId × Value → H) :
    ReturnsInHanded {} Try.checked os 7 .any (Rows.hashSpotSpec.pre6 enc Try.prog Try.f7 Rows.hashSpotRow.domain false) (Rows.hashSpotSpec.post enc Try.prog Try.f7 false true false false) := by
  refine returnsInHanded_of_change (C := Try.checked) own started (by kernel_rfl) Try.func7
    (ChangeSpec.witness6 (enc := enc) (C := Try.checked) false ⟨#[], #[.int .i64 0, .int .i64 0, .int .i64 0, .int .i64 0], []⟩ 8 (by kernel_rfl) (by kernel_rfl) (by kernel_rfl) (by kernel_rfl)) ?_
  intro W base args ds gs before hval0 hW hcnd _
  have hval : ∀ (j : Nat) t v, Try.f7.params[j]? = some t → args[j]? = some v → Value.okWide Try.prog W .any base t v := hval0
  have hW' := hW
  obtain ⟨p, q, hA0, hV, rfl, hfz, hnd⟩ := hW
  have hA : DataW.TrodAll enc Try.prog W 0 (fun _ => true) true Try.f7.params.toList args.toList ds p := hA0
  rw [Try.params7] at hA hval
  obtain ⟨v0, vs0, d0, ds0, p0, q0, hargs, rfl, rfl, h0, r0⟩ := trodAll_cons hA
  obtain ⟨v1, vs1, d1, ds1, p1, q1, rfl, rfl, rfl, h1, r1⟩ := trodAll_cons r0
  obtain ⟨v2, vs2, d2, ds2, p2, q2, rfl, rfl, rfl, h2, r2⟩ := trodAll_cons r1
  obtain ⟨v3, vs3, d3, ds3, p3, q3, rfl, rfl, rfl, h3, r3⟩ := trodAll_cons r2
  obtain ⟨rfl, rfl, rfl⟩ := trodAll_nil r3
  obtain rfl : args = #[v0, v1, v2, v3] := by cases args; simp_all
  obtain ⟨rfl, rfl⟩ := trodVars_none hV
  obtain ⟨a0, rfl, rfl, rfl, w0⟩ := open_int Try.underlying3 (hval 0 3 v0 rfl rfl) h0
  obtain ⟨a1, rfl, rfl, rfl, w1⟩ := open_int Try.underlying3 (hval 1 3 v1 rfl rfl) h1
  obtain ⟨a2, rfl, rfl, rfl, w2⟩ := open_int Try.underlying3 (hval 2 3 v2 rfl rfl) h2
  obtain ⟨a3, rfl, rfl, rfl, w3⟩ := open_int Try.underlying3 (hval 3 3 v3 rfl rfl) h3
  clear hA0 hval0
  simp only [List.append_nil] at hW'
  refine (walk a0 a1 a2 a3 w0 w1 w2 w3 W).mono fun e W' ⟨he, hg⟩ => ?_
  subst he
  exact ⟨_, rfl, post_of_same (pa := []) (pv := []) hW' (fun _ _ _ => (trodAll_cons_mk (shut_bool Try.underlying4 _) trodAll_mk0)) (fun sp _ => (trodAll_cons_mk (shut_int Try.underlying3 w0) (trodAll_cons_mk (shut_int Try.underlying3 w1) (trodAll_cons_mk (shut_int Try.underlying3 w2) (trodAll_cons_mk (shut_int Try.underlying3 w3) trodAll_mk0))))) (fun _ _ => rfl) rfl
    (hg.frame _) hg.2.1 (ok_one (by kernel_rfl) rfl (okWide_bool_mk Try.underlying4 _))⟩

theorem over : Rows.hashSpotRow.holds Try.pinned (OpenSpec.ofChange Rows.hashSpotSpec) :=
  OpenClaim.holds_of_wide 7 Try.f7 rfl rfl rfl rfl rfl rfl rfl ⟨rfl, rfl, rfl, rfl, rfl⟩ rfl rfl rfl rfl rfl (by kernel_rfl) Try.func7 (by kernel_rfl)
    (of_decide_eq_true (by kernel_rfl)) (by unfold Func.isWrapper; first | (rw [if_pos (by decide +kernel)]; kernel_rfl) | (rw [if_neg (by decide +kernel)]; exact ⟨rfl, rfl⟩))
    (fun os started H enc _ => lifted os started H enc)

theorem proved : Rows.HashSpotSaid :=
  over
#print axioms proved
end Go.Proofs.Ytfbekpgcfoeooaa.hashSpot
