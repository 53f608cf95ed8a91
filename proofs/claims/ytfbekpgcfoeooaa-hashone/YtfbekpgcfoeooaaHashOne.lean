/-
  HashOne is true at every three numbers: two keys that differ in one byte alone lie at unlike places. No condition.
-/
import Derived.Test.YtfbekpgcfoeooaaRows
import Derived.WalkKit
import Derived.ProofKit
import Derived.OpenShut
import Derived.Test.YtfbekpgcfoeooaaMix
namespace Go.Proofs.Ytfbekpgcfoeooaa.hashOne
open Go.ChangeShapes Go.WideShapes Go.ChangeAt Go.RowKit
open Go.Proofs.Ytfbekpgcfoeooaa.Plain Go.Proofs.Ytfbekpgcfoeooaa.Walks
set_option linter.unusedVariables false

theorem own : ownKnob Try.prog.godebug = none := by kernel_rfl

theorem xor_key (a d : Nat) (t : Nat) (ha : a < 4294967296) (hd : d < 256) (ht : t < 4) : a ^^^ d * 2 ^ (8 * t) < 4294967296 := by
  refine xor_lt _ _ ha ?_
  obtain rfl | rfl | rfl | rfl : t = 0 ∨ t = 1 ∨ t = 2 ∨ t = 3 := by omega
  all_goals omega
theorem shifted (a d t : Nat) (ha : a < 4294967296) (hd : d < 255) (ht : t < 4) : bits .xor .i64 (a : Int) (wrap64 ((1 + (d : Int)) * 2 ^ (8 * t))) = ((a ^^^ (d + 1) * 2 ^ (8 * t) : Nat) : Int) := by
  have hs : (d + 1) * 2 ^ (8 * t) < 4294967296 := by
    obtain rfl | rfl | rfl | rfl : t = 0 ∨ t = 1 ∨ t = 2 ∨ t = 3 := by omega
    all_goals omega
  have e : wrap64 ((1 + (d : Int)) * 2 ^ (8 * t)) = (((d + 1) * 2 ^ (8 * t) : Nat) : Int) := by
    rw [Int.natCast_mul, Int.natCast_pow, Int.natCast_add, Int.add_comm 1]
    have := IntWalk.wrap64_in (((d + 1) * 2 ^ (8 * t) : Nat) : Int) ⟨by omega, by omega⟩
    rw [Int.natCast_mul, Int.natCast_pow, Int.natCast_add] at this
    exact this
  rw [e]
  exact xor_i64 _ _ ha hs
set_option maxRecDepth 100000 in
set_option maxHeartbeats 800000 in
theorem walk (a0 : Int) (a1 : Int) (a2 : Int) (w0 : (Lit.int .i64 a0).wf = true) (w1 : (Lit.int .i64 a1).wf = true) (w2 : (Lit.int .i64 a2).wf = true) (w : World) :
    Calls Try.prog 5 #[.int .i64 a0, .int .i64 a1, .int .i64 a2] w fun e w' => e = .returned (.bool true) ∧ Grown w w' := by
  obtain ⟨p0, q0⟩ := bounds_i64 w0
  obtain ⟨p1, q1⟩ := bounds_i64 w1
  obtain ⟨p2, q2⟩ := bounds_i64 w2
  clear w0 w1 w2
  go_enter Try.func5, Try.ntmps5
  go_wp2_with fail
  refine (picked_any _ _ _ p0 q0 (by omega) (by omega)).mono ?_
  rintro e w1 ⟨rfl, rfl⟩
  have ha := pick_lt a0 (4294967296 : Int).toNat (by omega)
  generalize pick a0 (4294967296 : Int).toNat = a at *
  go_wp2_with fail
  refine (picked_any _ _ _ p2 q2 (by omega) (by omega)).mono ?_
  rintro e w2 ⟨rfl, rfl⟩
  have hd := pick_lt a2 (255 : Int).toNat (by omega)
  generalize pick a2 (255 : Int).toNat = d at *
  go_wp2_with fail
  refine (picked_any _ _ _ p1 q1 (by omega) (by omega)).mono ?_
  rintro e w3 ⟨rfl, rfl⟩
  have ht := pick_lt a1 (4 : Int).toNat (by omega)
  generalize pick a1 (4 : Int).toNat = t at *
  clear p0 q0 p1 q1 p2 q2
  have hap := key_apart a (d + 1) t (by omega) (by omega) (by omega)
  have hlt := xor_key a (d + 1) t (by omega) (by omega) (by omega)
  go_wp2_with fail
  rw [shifted a d t (by omega) (by omega) (by omega)]
  generalize a ^^^ (d + 1) * 2 ^ (8 * t) = b at *
  refine (key_any _ _ (by omega)).mono ?_
  rintro e w4 ⟨rfl, hg1⟩
  go_wp2_with fail
  refine (key_any _ _ (by omega)).mono ?_
  rintro e w5 ⟨rfl, hg2⟩
  have hne : ((keyMix a : Int) != (keyMix b : Int)) = true := by rw [bne_iff_ne]; omega
  generalize keyMix a = x at *
  generalize keyMix b = y at *
  clear hap
  go_wp2
  go_ret
  exact ⟨rfl, grown_trans hg1 hg2⟩

set_option maxRecDepth 100000 in
theorem lifted (os : Os) (started : os.Started) (H : Type) (enc : TypeId × Value → H) :
    ReturnsInHanded {} Try.checked os 5 .any (Rows.hashOneSpec.pre6 enc Try.prog Try.f5 Rows.hashOneRow.domain false) (Rows.hashOneSpec.post enc Try.prog Try.f5 false true false false) := by
  refine returnsInHanded_of_change (C := Try.checked) own started (by kernel_rfl) Try.func5
    (ChangeSpec.witness6 (enc := enc) (C := Try.checked) false ⟨#[], #[.int .i64 0, .int .i64 0, .int .i64 0], []⟩ 8 (by kernel_rfl) (by kernel_rfl) (by kernel_rfl) (by kernel_rfl)) ?_
  intro W base args ds gs before hval0 hW hcnd _
  have hval : ∀ (j : Nat) t v, Try.f5.params[j]? = some t → args[j]? = some v → Value.okWide Try.prog W .any base t v := hval0
  have hW' := hW
  obtain ⟨p, q, hA0, hV, rfl, hfz, hnd⟩ := hW
  have hA : DataW.TrodAll enc Try.prog W 0 (fun _ => true) true Try.f5.params.toList args.toList ds p := hA0
  rw [Try.params5] at hA hval
  obtain ⟨v0, vs0, d0, ds0, p0, q0, hargs, rfl, rfl, h0, r0⟩ := trodAll_cons hA
  obtain ⟨v1, vs1, d1, ds1, p1, q1, rfl, rfl, rfl, h1, r1⟩ := trodAll_cons r0
  obtain ⟨v2, vs2, d2, ds2, p2, q2, rfl, rfl, rfl, h2, r2⟩ := trodAll_cons r1
  obtain ⟨rfl, rfl, rfl⟩ := trodAll_nil r2
  obtain rfl : args = #[v0, v1, v2] := by cases args; simp_all
  obtain ⟨rfl, rfl⟩ := trodVars_none hV
  obtain ⟨a0, rfl, rfl, rfl, w0⟩ := open_int Try.underlying3 (hval 0 3 v0 rfl rfl) h0
  obtain ⟨a1, rfl, rfl, rfl, w1⟩ := open_int Try.underlying3 (hval 1 3 v1 rfl rfl) h1
  obtain ⟨a2, rfl, rfl, rfl, w2⟩ := open_int Try.underlying3 (hval 2 3 v2 rfl rfl) h2
  clear hA0 hval0
  simp only [List.append_nil] at hW'
  refine (walk a0 a1 a2 w0 w1 w2 W).mono fun e W' ⟨he, hg⟩ => ?_
  subst he
  exact ⟨_, rfl, post_of_same (pa := []) (pv := []) hW' (fun _ _ _ => (trodAll_cons_mk (shut_bool Try.underlying4 _) trodAll_mk0)) (fun sp _ => (trodAll_cons_mk (shut_int Try.underlying3 w0) (trodAll_cons_mk (shut_int Try.underlying3 w1) (trodAll_cons_mk (shut_int Try.underlying3 w2) trodAll_mk0)))) (fun _ _ => rfl) rfl
    (hg.frame _) hg.2.1 (ok_one (by kernel_rfl) rfl (okWide_bool_mk Try.underlying4 _))⟩

theorem over : Rows.hashOneRow.holds Try.pinned (OpenSpec.ofChange Rows.hashOneSpec) :=
  OpenClaim.holds_of_wide 5 Try.f5 rfl rfl rfl rfl rfl rfl rfl ⟨rfl, rfl, rfl, rfl, rfl⟩ rfl rfl rfl rfl rfl (by kernel_rfl) Try.func5 (by kernel_rfl)
    (of_decide_eq_true (by kernel_rfl)) (by unfold Func.isWrapper; first | (rw [if_pos (by decide +kernel)]; kernel_rfl) | (rw [if_neg (by decide +kernel)]; exact ⟨rfl, rfl⟩))
    (fun os started H enc _ => lifted os started H enc)

theorem proved : Rows.HashOneSaid :=
  over
#print axioms proved
end Go.Proofs.Ytfbekpgcfoeooaa.hashOne
