/-
  The first byte is the kind; of a kind that there is not nothing is read: ErrKind. No condition.
-/
import Derived.Test.YtcafnliedkhjmabRows
import Derived.Test.YtcafnliedkhjmabOpen
import Derived.Test.YtcafnliedkhjmabRaw
import Derived.WalkKit
import Derived.ProofKit
import Derived.OpenShut
import Derived.ShutString
import Derived.ChangeOld
import Derived.Below
namespace Go.Proofs.Ytcafnliedkhjmab.wireKind
open Go.ChangeShapes Go.WideShapes Go.ChangeAt Go.RowKit
open Go.ChangeMaps (open_string shut_string)
open Go.Proofs.Ytcafnliedkhjmab.Plain Go.Proofs.Ytcafnliedkhjmab.Walks Go.Proofs.Ytcafnliedkhjmab.Opens
set_option linter.unusedVariables false

theorem own : ownKnob Try.prog.godebug = none := by kernel_rfl
theorem laidOut : laidOutB Try.prog = true := by kernel_rfl

theorem dec_other (b : Nat) (t : List Nat) (h8 : 8 ≤ b) (hl : (b :: t).length ≤ 64) : dec (b :: t) = (Ev.zero, 5) := by
  refine dec_kind b t (by omega) ?_
  rcases flds_cases (b : Int) with ⟨_, h⟩ | h | h | h | h | h | h | h
  · exact h
  all_goals omega

theorem held5 {W a : World} {B g : Nat} {v0 v1 v2 v3 v4 : Value} (n0 : W.cell? ⟨B, 0, none⟩ = some v0) (n1 : W.cell? ⟨B, 1, none⟩ = some v1) (n2 : W.cell? ⟨B, 2, none⟩ = some v2) (n3 : W.cell? ⟨B, 3, none⟩ = some v3) (n4 : W.cell? ⟨g, 0, none⟩ = some v4) (h : Below W.heap.size W a) :
    a.cell? ⟨B, 0, none⟩ = some v0 ∧ a.cell? ⟨B, 1, none⟩ = some v1 ∧ a.cell? ⟨B, 2, none⟩ = some v2 ∧ a.cell? ⟨B, 3, none⟩ = some v3 ∧ a.cell? ⟨g, 0, none⟩ = some v4 ∧ Below W.heap.size W a := by
  have hl : B < W.heap.size := World.block_lt_of_cell? W ⟨B, 0, none⟩ n0
  have hg : g < W.heap.size := World.block_lt_of_cell? W ⟨g, 0, none⟩ n4
  exact ⟨by rw [h.cell hl]; exact n0, by rw [h.cell hl]; exact n1, by rw [h.cell hl]; exact n2, by rw [h.cell hl]; exact n3, by rw [h.cell hg]; exact n4, h⟩

set_option maxHeartbeats 2000000 in
theorem walk (x y z u : Int) (wx : (Lit.int .i64 x).wf = true) (wy : (Lit.int .i64 y).wf = true) (wz : (Lit.int .i64 z).wf = true) (wu : (Lit.int .i64 u).wf = true) (o : Int) (wo : (Lit.int .i64 o).wf = true) {w : World} :
    Calls Try.prog 4 #[.agg #[.int .i64 x, .int .i64 y, .int .i64 z, .int .i64 u], .int .i64 o] w fun r w' => r = .returned (.bool true) ∧ Below w.heap.size w w' := by
  have hev := fun W => event_any x y z u W (fits_of wx) (fits_of wy) (fits_of wz) (fits_of wu)
  have hok := raw_ok x y z u
  obtain ⟨hb256, hl16, hl1⟩ := raw_bytes x y z u
  generalize raw x y z u = e at *
  simp only [arr] at hev
  obtain ⟨fs, hf, _, _, hee, hk1, hk7, _⟩ := ok_parts hok
  obtain ⟨q, hq⟩ : ∃ q, pick o (248 : Int).toNat = q := ⟨_, rfl⟩
  have hq2 : q < 248 := by rw [← hq]; exact pick_lt _ _ (by decide)
  have HV : Hid (_ ∧ _ ∧ _ ∧ _ ∧ _ ∧ _ ∧ _) := ⟨hev, hok, hb256, hf, hee, fits_of wo, hq⟩
  clear hev hok hb256 hf hee wx wy wz wu wo hq
  go_enter Try.func4, Try.ntmps4
  go_wp2_with fail
  refine (HV.out.1 _).mono ?_
  rintro r w1 ⟨rfl, hb1⟩
  have hb1' : Below w.heap.size w w1 := ((Below.refl _ _).alloc (Nat.le_refl _) _).trans (hb1.mono (by simp))
  have HB1 : Hid (_ ∧ _) := ⟨hb1', hb1⟩
  clear hb1 hb1'
  go_wp2_with fail
  refine (encode_ok e _ HV.out.2.1).mono ?_
  rintro r w2 ⟨v, rfl, hown, hb2⟩
  obtain ⟨g, cap, rfl, hg1, hg2⟩ := hown.form (by omega)
  have hbb := below_tr HB1.out.2 hb2
  have n0 : w2.cell? ⟨w.heap.size, 0, none⟩ = some (.int .i64 x) := by rw [hbb.cell (p := ⟨w.heap.size, 0, none⟩) (by simp)]; simp
  have n1 : w2.cell? ⟨w.heap.size, 1, none⟩ = some (.int .i64 y) := by rw [hbb.cell (p := ⟨w.heap.size, 1, none⟩) (by simp)]; simp
  have n2 : w2.cell? ⟨w.heap.size, 2, none⟩ = some (.int .i64 z) := by rw [hbb.cell (p := ⟨w.heap.size, 2, none⟩) (by simp)]; simp
  have n3 : w2.cell? ⟨w.heap.size, 3, none⟩ = some (.int .i64 u) := by rw [hbb.cell (p := ⟨w.heap.size, 3, none⟩) (by simp)]; simp
  have n4 : w2.cell? ⟨g, 0, none⟩ = some (.int .u8 e.kind) := by
    have h := hown.cellAt 0 (by omega)
    rw [h, HV.out.2.2.2.2.1]
    simp [bcells, kind_cast hk1]
  have HO : Hid (_ ∧ _ ∧ _) := ⟨hown, HB1.out.1.trans (hb2.mono HB1.out.1.size), hbb⟩
  clear hown hb2 hbb
  obtain ⟨n, hn⟩ : ∃ n, n = (encEv e).length := ⟨_, rfl⟩
  rw [← hn] at hl16 hl1 ⊢
  have HN : Hid (n = (encEv e).length) := hn
  clear hn
  have i1 : ((n : Int) == 0) = false := by simp; omega
  have i2 : (0 : Int) < (n : Int) := by omega
  have i2' : 0 < n := by omega
  have i2'' : ¬ n = 0 := by omega
  have i3 : IntKind.i64.wrap e.kind = e.kind := by rw [IntKind.wrap_i64]; omega
  have i4 : (e.kind != e.kind) = false := by simp
  have hfd : ∀ W, (Instr.field 28 (.agg #[.int .i64 e.kind, .int .i64 e.key, .int .i64 e.slot, .int .i64 e.gen, .bool e.good, .int .i64 e.req, .int .i64 e.be, .int .i64 e.wt]) 0).run Try.prog W = .ok (.int .i64 e.kind) W := fun _ => by kernel_rfl
  go_wp2_with fail
  go_region_held3 (fun w' => w'.cell? ⟨w.heap.size, 0, none⟩ = some (.int .i64 x) ∧ w'.cell? ⟨w.heap.size, 1, none⟩ = some (.int .i64 y) ∧ w'.cell? ⟨w.heap.size, 2, none⟩ = some (.int .i64 z) ∧ w'.cell? ⟨w.heap.size, 3, none⟩ = some (.int .i64 u) ∧ w'.cell? ⟨g, 0, none⟩ = some (.int .u8 e.kind) ∧ Below w2.heap.size w2 w') (first | exact held5 n0 n1 n2 n3 n4 ((Below.refl _ _).drew) | exact held5 n0 n1 n2 n3 n4 (below_of_drew hb3)) (first | (go_at_call 7; refine (HV.out.1 _).mono ?_; rintro r w3 ⟨rfl, hb3⟩))
  all_goals
    have hb3' := below_of_drew hb3
    have hown3 := owns_below HO.out.1 hb3'
    have HB3 : Hid (_ ∧ _) := ⟨HO.out.2.1.trans (hb3'.mono HO.out.2.1.size), hown3⟩
    have n5 : w3.cell? ⟨g, 0, none⟩ = some (.int .u8 e.kind) := by rw [hb3'.cell (p := ⟨g, 0, none⟩) hg2]; exact n4
    have n6 : w3.frozen? ⟨g, 0, none⟩ = false := hown3.frozenAt 0
    clear hb3 hb3' hown3 n0 n1 n2 n3 n4 hfd i3 i4
    have hs3 := HB3.out.1.size
    go_wp2_with fail
    refine (picked_is o 248 q _ HV.out.2.2.2.2.2.1 HV.out.2.2.2.2.2.2 (by omega) (by omega)).mono ?_
    rintro r w3 ⟨rfl, rfl⟩
    have hst := HB3.out.2.stored 0 (.int .u8 ((8 + q : Nat) : Int))
    have hlist : (bcells (encEv e)).set 0 (.int .u8 ((8 + q : Nat) : Int)) = bcells ((8 + q) :: (encEv e).tail) := by
      rw [HV.out.2.2.2.2.1]; simp [bcells]
    have hlen : ((8 + q) :: (encEv e).tail).length = (encEv e).length := by rw [HV.out.2.2.2.2.1]; simp
    rw [hlist, ← hlen] at hst
    have hdc := decode_at _ ((8 + q) :: (encEv e).tail) Ev.zero 5 _ (dec_other (8 + q) _ (by omega) (by rw [hlen]; have := HN.out; omega)) (bytesAt_owned hst.1) (fun b hb => by
      rcases List.mem_cons.1 hb with h | h
      · omega
      · exact HV.out.2.2.1 b (List.mem_of_mem_tail h)) (by rw [hlen]; have := HN.out; omega)
    rw [hlen, ← HN.out] at hdc
    simp only [Ev.zero] at hdc
    have hcast : ((8 + q : Nat) : Int) = 8 + (q : Int) := by omega
    rw [hcast] at hdc hst
    have hbel : Below w.heap.size w (w3.setCell ⟨g, 0, none⟩ (.int .u8 (8 + (q : Int)))) := HB3.out.1.setCell (by show w.heap.size ≤ g; have := HB1.out.1.size; omega) _
    have HD : Hid (_ ∧ _) := ⟨hdc, hbel⟩
    clear hdc hbel hst hlist hlen hcast
    have j1 : (q : Int) < 248 := by omega
    go_wp2_with fail
    refine Calls.mono HD.out.1 ?_
    rintro r w4 ⟨rfl, hb4⟩
    have HB4 : Hid (Below w.heap.size w w4) := HD.out.2.trans (hb4.mono HD.out.2.size)
    have hs4 := HB4.out.size
    clear hb4
    go_wp2
    go_ret
    exact ⟨rfl, HB4.out.alloc hs4 _⟩

set_option maxRecDepth 100000 in
theorem lifted (os : Os) (started : os.Started) (H : Type) (enc : TypeId × Value → H) :
    ReturnsInHanded {} Try.checked os 4 .any (Rows.wireKindSpec.pre6 enc Try.prog Try.f4 Rows.wireKindRow.domain false) (Rows.wireKindSpec.post enc Try.prog Try.f4 false true false false) := by
  refine returnsInHanded_of_change (C := Try.checked) own started (by kernel_rfl) Try.func4
    (ChangeSpec.witness6 (enc := enc) (C := Try.checked) false ⟨#[], #[.agg #[.int .i64 0, .int .i64 0, .int .i64 0, .int .i64 0], .int .i64 0], []⟩ 8 (by kernel_rfl) (by kernel_rfl) (by kernel_rfl) (by kernel_rfl)) ?_
  intro W base args ds gs before hval0 hW hcnd _
  have hval : ∀ (j : Nat) t v, Try.f4.params[j]? = some t → args[j]? = some v → Value.okWide Try.prog W .any base t v := hval0
  have hW' := hW
  obtain ⟨p, q, hA0, hV, rfl, hfz, hnd⟩ := hW
  have hA : DataW.TrodAll enc Try.prog W 0 (fun _ => true) true Try.f4.params.toList args.toList ds p := hA0
  rw [Try.params4] at hA hval
  obtain ⟨v0, vs0, d0, ds0, p0, q0, hargs, rfl, rfl, h0, r0⟩ := trodAll_cons hA
  obtain ⟨v1, vs1, d1, ds1, p1, q1, rfl, rfl, rfl, h1, r1⟩ := trodAll_cons r0
  obtain ⟨rfl, rfl, rfl⟩ := trodAll_nil r1
  obtain rfl : args = #[v0, v1] := by cases args; simp_all
  obtain ⟨rfl, rfl⟩ := trodVars_none hV
  have k0 := h0
  have lt0 : ∀ x ∈ p0, x.block < W.heap.size := by obtain ⟨m, hm⟩ := k0; exact DataW.trod_lt m _ _ _ hm
  obtain ⟨x0, y0, z0, u0, rfl, wx0, wy0, wz0, wu0⟩ := open_coming (hval 0 31 v0 rfl rfl) h0
  obtain ⟨a1, rfl, rfl, rfl, w1⟩ := open_int Try.underlying3 (hval 1 3 v1 rfl rfl) h1
  clear hA0 hval0
  refine (walk x0 y0 z0 u0 wx0 wy0 wz0 wu0 a1 w1 (w := W)).mono fun e W' ⟨he, bel⟩ => ?_
  subst he
  exact ⟨_, rfl, _, _, _, [], _, [], hW', trodAll_mk1 (shut_bool Try.underlying4 _), (trodAll_cons_mk (Below.trod laidOut (by kernel_rfl) (of_decide_eq_true (by kernel_rfl)) k0 bel lt0) (trodAll_cons_mk (shut_int Try.underlying3 w1) trodAll_mk0)), rfl, bel.frame _, fun h => by cases h⟩

theorem over : Rows.wireKindRow.holds Try.pinned (OpenSpec.ofChange Rows.wireKindSpec) :=
  OpenClaim.holds_of_wide 4 Try.f4 rfl rfl rfl rfl rfl rfl rfl ⟨rfl, rfl, rfl, rfl, rfl⟩ rfl rfl rfl rfl rfl (by kernel_rfl) Try.func4 (by kernel_rfl)
    (of_decide_eq_true (by kernel_rfl)) (by unfold Func.isWrapper; first | (rw [if_pos (by decide +kernel)]; kernel_rfl) | (rw [if_neg (by decide +kernel)]; exact ⟨rfl, rfl⟩))
    (fun os started H enc _ => lifted os started H enc)

theorem proved : Rows.WireKindSaid :=
  over
#print axioms proved
end Go.Proofs.Ytcafnliedkhjmab.wireKind
