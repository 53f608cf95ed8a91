/-
  A lesser key has no more bytes: an event that opens a flow has from 2 to 6, and the greater key's no fewer. No condition.
-/
import Derived.Test.YtcafnliedkhjmabRows
import Derived.Test.YtcafnliedkhjmabOpen
import Derived.Test.YtcafnliedkhjmabRaw
import Derived.WalkKit
import Derived.ProofKit
import Derived.OpenShut
import Derived.ShutString
import Derived.ChangeOld
import Derived.Below
namespace Go.Proofs.Ytcafnliedkhjmab.wireLess
open Go.ChangeShapes Go.WideShapes Go.ChangeAt Go.RowKit
open Go.ChangeMaps (open_string shut_string)
open Go.Proofs.Ytcafnliedkhjmab.Plain Go.Proofs.Ytcafnliedkhjmab.Walks Go.Proofs.Ytcafnliedkhjmab.Opens
set_option linter.unusedVariables false

theorem own : ownKnob Try.prog.godebug = none := by kernel_rfl
theorem laidOut : laidOutB Try.prog = true := by kernel_rfl

theorem enc_mono : ∀ (f m n : Nat), n < f → m ≤ n → (enc m).length ≤ (enc n).length
  | 0, m, n, h, _ => by omega
  | f + 1, m, n, h, hmn => by
    by_cases h1 : m < 128
    · rw [enc_small m h1]; exact enc_pos n
    · rw [enc_great m h1, enc_great n (by omega)]
      have := enc_mono f (m / 128) (n / 128) (by omega) (by omega)
      simp; omega

/-- The event that opens a flow. -/
def opens (m : Nat) : Ev := ⟨1, (m : Int), 0, 0, false, 0, 0, 0⟩
theorem opens_ok (m : Nat) (h : m < 4294967296) : fault (opens m) = 0 := by
  simp [opens, fault, flds, Ev.within, Ev.num, Ev.clean, Ev.clear, Ev.put, Ev.zero]; omega
theorem opens_len (m : Nat) : (encEv (opens m)).length = 1 + (enc m).length := by
  simp [opens, encEv, flds, Ev.num]; omega

set_option maxHeartbeats 1000000 in
theorem walk_at (p q m n : Nat) (a b : Int) {w : World} (ha : Fits a) (hb : Fits b) (hp : pick a (4294967296 : Int).toNat = p) (hq : pick b (4294967296 : Int).toNat = q) (hm : m = min p q) (hn : n = max p q) (h1 : p < 4294967296) (h2 : q < 4294967296) (hpq : p < q ∨ p = q ∨ q < p) :
    Calls Try.prog 3 #[.int .i64 a, .int .i64 b] w fun r w' => r = .returned (.bool true) ∧ Below w.heap.size w w' := by
  have hmono := enc_mono (n + 1) m n (by omega) (by omega)
  have hpos := enc_pos m
  have hl5 := enc_len5 n (by omega)
  have hml := opens_len m
  have hnl := opens_len n
  have eM := fun W => encode_ok (opens m) W (opens_ok m (by omega))
  have eN := fun W => encode_ok (opens n) W (opens_ok n (by omega))
  simp only [opens] at eM eN
  simp only [opens] at hml hnl
  generalize encEv ⟨1, (m : Int), 0, 0, false, 0, 0, 0⟩ = lm at *
  generalize encEv ⟨1, (n : Int), 0, 0, false, 0, 0, 0⟩ = ln at *
  have k1 : 2 ≤ lm.length := by omega
  have k2 : lm.length ≤ ln.length := by omega
  have k3 : ln.length ≤ 6 := by omega
  have HE : Hid (_ ∧ _ ∧ _ ∧ _ ∧ _ ∧ _) := ⟨eM, eN, ha, hb, hp, hq⟩
  clear eM eN ha hb hp hq hmono hpos hl5 hml hnl
  rcases hpq with hpq | hpq | hpq
  · obtain rfl : m = p := by omega
    obtain rfl : n = q := by omega
    clear hm hn
    have i1 : (m : Int) ≤ (n : Int) := by omega
    have i2 : (m : Int) < (n : Int) := by omega
    have i3 : ¬ (n : Int) < (m : Int) := by omega
    go_enter Try.func3, Try.ntmps3
    go_wp2_with fail
    refine (picked_is a 4294967296 m _ HE.out.2.2.1 HE.out.2.2.2.2.1 (by omega) (by omega)).mono ?_
    rintro r w' ⟨rfl, rfl⟩
    go_wp2_with fail
    refine (picked_is b 4294967296 n _ HE.out.2.2.2.1 HE.out.2.2.2.2.2 (by omega) (by omega)).mono ?_
    rintro r w' ⟨rfl, rfl⟩
    go_wp2_with fail
    refine (HE.out.1 _).mono ?_
    rintro r w1 ⟨v, rfl, hown1, hb1⟩
    obtain ⟨g, cap, rfl, _, _⟩ := hown1.form (by omega)
    have HB1 : Hid (Below w'.heap.size w' w1) := hb1
    clear hb1 hown1
    go_wp2_with fail
    refine (HE.out.2.1 _).mono ?_
    rintro r w2 ⟨v, rfl, hown2, hb2⟩
    obtain ⟨g', cap', rfl, _, _⟩ := hown2.form (by omega)
    have HB2 : Hid (Below w'.heap.size w' w2) := below_tr HB1.out hb2
    clear hb2 hown2
    have j1 : (2 : Int) ≤ (lm.length : Int) := by omega
    have j2 : (lm.length : Int) ≤ (ln.length : Int) := by omega
    have j3 : (ln.length : Int) ≤ 6 := by omega
    generalize lm.length = a1 at *
    generalize ln.length = a2 at *
    go_wp2
    go_ret
    exact ⟨rfl, HB2.out⟩
  · obtain rfl : m = p := by omega
    obtain rfl : n = q := by omega
    subst hpq
    clear hm hn
    go_enter Try.func3, Try.ntmps3
    go_wp2_with fail
    refine (picked_is a 4294967296 m _ HE.out.2.2.1 HE.out.2.2.2.2.1 (by omega) (by omega)).mono ?_
    rintro r w' ⟨rfl, rfl⟩
    go_wp2_with fail
    refine (picked_is b 4294967296 m _ HE.out.2.2.2.1 HE.out.2.2.2.2.2 (by omega) (by omega)).mono ?_
    rintro r w' ⟨rfl, rfl⟩
    go_wp2_with fail
    refine (HE.out.1 _).mono ?_
    rintro r w1 ⟨v, rfl, hown1, hb1⟩
    obtain ⟨g, cap, rfl, _, _⟩ := hown1.form (by omega)
    have HB1 : Hid (Below w'.heap.size w' w1) := hb1
    clear hb1 hown1
    go_wp2_with fail
    refine (HE.out.2.1 _).mono ?_
    rintro r w2 ⟨v, rfl, hown2, hb2⟩
    obtain ⟨g', cap', rfl, _, _⟩ := hown2.form (by omega)
    have HB2 : Hid (Below w'.heap.size w' w2) := below_tr HB1.out hb2
    clear hb2 hown2
    have j1 : (2 : Int) ≤ (lm.length : Int) := by omega
    have j2 : (lm.length : Int) ≤ (ln.length : Int) := by omega
    have j3 : (ln.length : Int) ≤ 6 := by omega
    generalize lm.length = a1 at *
    generalize ln.length = a2 at *
    go_wp2
    go_ret
    exact ⟨rfl, HB2.out⟩
  · obtain rfl : m = q := by omega
    obtain rfl : n = p := by omega
    clear hm hn
    have i1 : ¬ (n : Int) ≤ (m : Int) := by omega
    have i2 : (m : Int) ≤ (n : Int) := by omega
    have i3 : (m : Int) < (n : Int) := by omega
    go_enter Try.func3, Try.ntmps3
    go_wp2_with fail
    refine (picked_is a 4294967296 n _ HE.out.2.2.1 HE.out.2.2.2.2.1 (by omega) (by omega)).mono ?_
    rintro r w' ⟨rfl, rfl⟩
    go_wp2_with fail
    refine (picked_is b 4294967296 m _ HE.out.2.2.2.1 HE.out.2.2.2.2.2 (by omega) (by omega)).mono ?_
    rintro r w' ⟨rfl, rfl⟩
    go_wp2_with fail
    refine (HE.out.1 _).mono ?_
    rintro r w1 ⟨v, rfl, hown1, hb1⟩
    obtain ⟨g, cap, rfl, _, _⟩ := hown1.form (by omega)
    have HB1 : Hid (Below w'.heap.size w' w1) := hb1
    clear hb1 hown1
    go_wp2_with fail
    refine (HE.out.2.1 _).mono ?_
    rintro r w2 ⟨v, rfl, hown2, hb2⟩
    obtain ⟨g', cap', rfl, _, _⟩ := hown2.form (by omega)
    have HB2 : Hid (Below w'.heap.size w' w2) := below_tr HB1.out hb2
    clear hb2 hown2
    have j1 : (2 : Int) ≤ (lm.length : Int) := by omega
    have j2 : (lm.length : Int) ≤ (ln.length : Int) := by omega
    have j3 : (ln.length : Int) ≤ 6 := by omega
    generalize lm.length = a1 at *
    generalize ln.length = a2 at *
    go_wp2
    go_ret
    exact ⟨rfl, HB2.out⟩

theorem walk (a : Int) (wa : (Lit.int .i64 a).wf = true) (b : Int) (wb : (Lit.int .i64 b).wf = true) {w : World} :
    Calls Try.prog 3 #[.int .i64 a, .int .i64 b] w fun r w' => r = .returned (.bool true) ∧ Below w.heap.size w w' :=
  walk_at _ _ _ _ a b (fits_of wa) (fits_of wb) rfl rfl rfl rfl (pick_lt _ _ (by decide)) (pick_lt _ _ (by decide)) (by omega)

set_option maxRecDepth 100000 in
theorem lifted (os : Os) (started : os.Started) (H : Type) (enc : TypeId × Value → H) :
    ReturnsInHanded {} Try.checked os 3 .any (Rows.wireLessSpec.pre6 enc Try.prog Try.f3 Rows.wireLessRow.domain false) (Rows.wireLessSpec.post enc Try.prog Try.f3 false true false false) := by
  refine returnsInHanded_of_change (C := Try.checked) own started (by kernel_rfl) Try.func3
    (ChangeSpec.witness6 (enc := enc) (C := Try.checked) false ⟨#[], #[.int .i64 0, .int .i64 0], []⟩ 8 (by kernel_rfl) (by kernel_rfl) (by kernel_rfl) (by kernel_rfl)) ?_
  intro W base args ds gs before hval0 hW hcnd _
  have hval : ∀ (j : Nat) t v, Try.f3.params[j]? = some t → args[j]? = some v → Value.okWide Try.prog W .any base t v := hval0
  have hW' := hW
  obtain ⟨p, q, hA0, hV, rfl, hfz, hnd⟩ := hW
  have hA : DataW.TrodAll enc Try.prog W 0 (fun _ => true) true Try.f3.params.toList args.toList ds p := hA0
  rw [Try.params3] at hA hval
  obtain ⟨v0, vs0, d0, ds0, p0, q0, hargs, rfl, rfl, h0, r0⟩ := trodAll_cons hA
  obtain ⟨v1, vs1, d1, ds1, p1, q1, rfl, rfl, rfl, h1, r1⟩ := trodAll_cons r0
  obtain ⟨rfl, rfl, rfl⟩ := trodAll_nil r1
  obtain rfl : args = #[v0, v1] := by cases args; simp_all
  obtain ⟨rfl, rfl⟩ := trodVars_none hV
  obtain ⟨a0, rfl, rfl, rfl, w0⟩ := open_int Try.underlying3 (hval 0 3 v0 rfl rfl) h0
  obtain ⟨a1, rfl, rfl, rfl, w1⟩ := open_int Try.underlying3 (hval 1 3 v1 rfl rfl) h1
  clear hA0 hval0
  refine (walk a0 w0 a1 w1 (w := W)).mono fun e W' ⟨he, bel⟩ => ?_
  subst he
  exact ⟨_, rfl, _, _, _, [], _, [], hW', trodAll_mk1 (shut_bool Try.underlying4 _), (trodAll_cons_mk (shut_int Try.underlying3 w0) (trodAll_cons_mk (shut_int Try.underlying3 w1) trodAll_mk0)), rfl, bel.frame _, fun h => by cases h⟩

theorem over : Rows.wireLessRow.holds Try.pinned (OpenSpec.ofChange Rows.wireLessSpec) :=
  OpenClaim.holds_of_wide 3 Try.f3 rfl rfl rfl rfl rfl rfl rfl ⟨rfl, rfl, rfl, rfl, rfl⟩ rfl rfl rfl rfl rfl (by kernel_rfl) Try.func3 (by kernel_rfl)
    (of_decide_eq_true (by kernel_rfl)) (by unfold Func.isWrapper; first | (rw [if_pos (by decide +kernel)]; kernel_rfl) | (rw [if_neg (by decide +kernel)]; exact ⟨rfl, rfl⟩))
    (fun os started H enc _ => lifted os started H enc)

theorem proved : Rows.WireLessSaid :=
  over
#print axioms proved
end Go.Proofs.Ytcafnliedkhjmab.wireLess
