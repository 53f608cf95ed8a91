/-
  wheel.New answers what the document's P3.3 says, at every argument. No condition.
-/
import Derived.Test.YtjjlekohkoicbaaRows
import Derived.Test.YtjjlekohkoicbaaNew0
import Derived.WalkKit
import Derived.ProofKit
import Derived.OpenShut
import Derived.ShutString
import Derived.ChangeOld
import Derived.Below
namespace Go.Proofs.Ytjjlekohkoicbaa.wheelNews
open Go.ChangeShapes Go.WideShapes Go.ChangeAt Go.RowKit
open Go.ChangeMaps (open_string shut_string)
open Go.Proofs.Ytjjlekohkoicbaa.Walks
set_option linter.unusedVariables false

theorem own : ownKnob Try.prog.godebug = none := by kernel_rfl
theorem laidOut : laidOutB Try.prog = true := by kernel_rfl

set_option maxHeartbeats 1000000 in
theorem walk (now : Int) (wn : (Lit.int .i64 now).wf = true) {w : World} :
    Calls Try.prog 3 #[.int .i64 now] w fun r w' => r = .returned (.bool true) ∧ Below w.heap.size w w' := by
  by_cases h : 0 ≤ now ∧ now ≤ 1099511627776
  · have H : Hid _ := h
    clear h wn
    go_enter Try.func3, Try.ntmps3
    go_wp2_with fail
    refine (new_ok now _ H.out).mono ?_
    rintro r w1 ⟨v, vs, rfl, hown, hb1⟩
    obtain ⟨va, vc, rfl⟩ := own_form hown.row
    have HO : Hid (_ ∧ _) := ⟨hown, hb1⟩
    clear hown hb1
    go_wp2_with fail
    refine (refNew_ok now _ H.out).mono ?_
    rintro r w2 ⟨x, rfl, hx, hb2⟩
    obtain ⟨u, rfl, hls⟩ := hx
    obtain ⟨ua, uc, rfl, _⟩ := hls.parts
    have hA : w2.heap[w1.heap.size]? = some (.cells #[.int .i64 now, .slice va bare.length vc] 24 (0, 0)) := (hb2.block _ (by simp)).trans (heap_alloc_new _ _)
    obtain ⟨c0, c1, _, _, hlt⟩ := two_cells hA
    have h1 : WhAt w2 (.agg #[.int .i64 now, .slice va bare.length vc]) now bare := WhAt.below (WhAt.below ⟨_, rfl, HO.out.1.at⟩ ((Below.refl _ _).alloc (Nat.le_refl _) _)) hb2
    have HP : Hid (_ ∧ _ ∧ _) := ⟨h1, hls, hb2⟩
    clear hA h1 hls hb2
    go_wp2_with fail
    refine (sameWheel _ _ now now bare bare _ (HP.out.1.below ((Below.refl _ _).alloc (Nat.le_refl _) _)) (WhAt.below ⟨_, rfl, HP.out.2.1⟩ ((Below.refl _ _).alloc (Nat.le_refl _) _))).mono ?_
    rw [show decide (now = now ∧ bare = bare) = true from decide_eq_true ⟨rfl, rfl⟩]
    rintro r w3 ⟨rfl, hb3⟩
    go_wp2
    go_ret
    refine ⟨rfl, ?_⟩
    have b1 : Below w.heap.size w (w1.alloc (.cells #[.int .i64 now, .slice va bare.length vc] 24)) := HO.out.2.alloc HO.out.2.size _
    have b2 := b1.trans (HP.out.2.2.mono b1.size)
    have b3 := b2.alloc b2.size (.cells #[.int .i64 now, .slice ua bare.length uc] 24)
    exact b3.trans (hb3.mono b3.size)
  · have H : Hid _ := h
    clear h wn
    go_enter Try.func3, Try.ntmps3
    go_wp2_with fail
    refine (new_bad now _ H.out).mono ?_
    rintro r w1 ⟨rfl, hb1⟩
    have HO : Hid _ := hb1
    clear hb1
    go_wp2_with fail
    refine (refNew_bad now _ H.out).mono ?_
    rintro r w2 ⟨rfl, hb2⟩
    have hA : w2.heap[w1.heap.size]? = some (.cells #[.int .i64 0, .slice none 0 0] 24 (0, 0)) := (hb2.block _ (by simp)).trans (heap_alloc_new _ _)
    obtain ⟨c0, c1, _, _, hlt⟩ := two_cells hA
    have HP : Hid _ := hb2
    clear hA hb2
    go_wp2_with fail
    refine (sameWheel _ _ 0 0 [] [] _ (zeroWheel_at _) (zeroWheel_at _)).mono ?_
    rw [show decide ((0 : Int) = 0 ∧ ([] : List (List Tm)) = []) = true from decide_eq_true ⟨rfl, rfl⟩]
    rintro r w3 ⟨rfl, hb3⟩
    go_wp2
    go_ret
    refine ⟨rfl, ?_⟩
    have b1 : Below w.heap.size w (w1.alloc (.cells #[.int .i64 0, .slice none 0 0] 24)) := HO.out.alloc HO.out.size _
    have b2 := b1.trans (HP.out.mono b1.size)
    have b3 := b2.alloc b2.size (.cells #[.int .i64 0, .slice none 0 0] 24)
    exact b3.trans (hb3.mono b3.size)

set_option maxRecDepth 100000 in
theorem lifted (os : Os) (started : os.Started) (H : Type) (enc : TypeId × Value → H) :
    ReturnsInHanded {} Try.checked os 3 .any (Rows.wheelNewsSpec.pre6 enc Try.prog Try.f3 Rows.wheelNewsRow.domain false) (Rows.wheelNewsSpec.post enc Try.prog Try.f3 false true false false) := by
  refine returnsInHanded_of_change (C := Try.checked) own started (by kernel_rfl) Try.func3
    (ChangeSpec.witness6 (enc := enc) (C := Try.checked) false ⟨#[], #[.int .i64 0], []⟩ 8 (by kernel_rfl) (by kernel_rfl) (by kernel_rfl) (by kernel_rfl)) ?_
  intro W base args ds gs before hval0 hW hcnd _
  have hval : ∀ (j : Nat) t v, Try.f3.params[j]? = some t → args[j]? = some v → Value.okWide Try.prog W .any base t v := hval0
  have hW' := hW
  obtain ⟨p, q, hA0, hV, rfl, hfz, hnd⟩ := hW
  have hA : DataW.TrodAll enc Try.prog W 0 (fun _ => true) true Try.f3.params.toList args.toList ds p := hA0
  rw [Try.params3] at hA hval
  obtain ⟨v0, vs0, d0, ds0, p0, q0, hargs, rfl, rfl, h0, r0⟩ := trodAll_cons hA
  obtain ⟨rfl, rfl, rfl⟩ := trodAll_nil r0
  obtain rfl : args = #[v0] := by cases args; simp_all
  obtain ⟨rfl, rfl⟩ := trodVars_none hV
  obtain ⟨a0, rfl, rfl, rfl, w0⟩ := open_int Try.underlying3 (hval 0 3 v0 rfl rfl) h0
  clear hA0 hval0
  refine (walk a0 w0 (w := W)).mono fun e W' ⟨he, bel⟩ => ?_
  subst he
  exact ⟨_, rfl, _, _, _, [], _, [], hW', trodAll_mk1 (shut_bool Try.underlying4 _), (trodAll_cons_mk (shut_int Try.underlying3 w0) trodAll_mk0), rfl, bel.frame _, fun h => by cases h⟩

theorem over : Rows.wheelNewsRow.holds Try.pinned (OpenSpec.ofChange Rows.wheelNewsSpec) :=
  OpenClaim.holds_of_wide 3 Try.f3 rfl rfl rfl rfl rfl rfl rfl ⟨rfl, rfl, rfl, rfl, rfl⟩ rfl rfl rfl rfl rfl (by kernel_rfl) Try.func3 (by kernel_rfl)
    (of_decide_eq_true (by kernel_rfl)) (by unfold Func.isWrapper; first | (rw [if_pos (by decide +kernel)]; kernel_rfl) | (rw [if_neg (by decide +kernel)]; exact ⟨rfl, rfl⟩))
    (fun os started H enc _ => lifted os started H enc)

theorem proved : Rows.WheelNewsSaid :=
  over
#print axioms proved
end Go.Proofs.Ytjjlekohkoicbaa.wheelNews
