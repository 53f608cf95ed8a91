/-
  For every slice of bytes Decode answers what the document's EventRead answers, and the bytes are as they were. No condition.
-/
import Derived.Test.YtcafnliedkhjmaaRows
import Derived.Test.YtcafnliedkhjmaaOpen
import Derived.Test.YtcafnliedkhjmaaAt
import Derived.Test.YtcafnliedkhjmaaRefC
import Derived.Test.YtcafnliedkhjmaaOpen2
import Derived.SizedLaws
import Derived.WalkKit
import Derived.ProofKit
import Derived.OpenShut
import Derived.ShutString
import Derived.ChangeOld
import Derived.Below
namespace Go.Proofs.Ytcafnliedkhjmaa.wireDecodes
open Go.ChangeShapes Go.WideShapes Go.ChangeAt Go.RowKit
open Go.ChangeMaps (open_string shut_string)
open Go.Proofs.Ytcafnliedkhjmaa.Plain Go.Proofs.Ytcafnliedkhjmaa.Walks Go.Proofs.Ytcafnliedkhjmaa.Opens
set_option linter.unusedVariables false

theorem own : ownKnob Try.prog.godebug = none := by kernel_rfl
theorem laidOut : laidOutB Try.prog = true := by kernel_rfl

theorem read_at (v : Value) (l : List Nat) (e : Ev) (c : Int) (w : World) (hd : dec l = (e, c)) (hv : BytesAt w v l) (hx : ∀ x ∈ l, x < 256) (hm : l.length ≤ 140737488351232) :
    Calls Try.prog 16 #[v] w fun r w' => r = .returned (.tuple #[.agg #[.int .i64 e.kind, .int .i64 e.key, .int .i64 e.slot, .int .i64 e.gen, .bool e.good, .int .i64 e.req, .int .i64 e.be, .int .i64 e.wt], .int .i64 c]) ∧ Below w.heap.size w w' := by
  refine (read_any v l w hv hx (by unfold maxLen; omega)).mono ?_
  rintro r w' ⟨h, hb⟩
  rw [hd] at h
  exact ⟨h, hb⟩

set_option maxHeartbeats 1000000 in
theorem walk (v : Value) (l : List Nat) {w : World} (hv : BytesAt w v l) (hx : ∀ x ∈ l, x < 256) (hl : l.length ≤ 140737488351232) :
    Calls Try.prog 5 #[v] w fun r w' => r = .returned (.bool true) ∧ Below w.heap.size w w' := by
  obtain ⟨⟨e, c⟩, hd⟩ : ∃ p, dec l = p := ⟨_, rfl⟩
  have HV : Hid (_ ∧ _ ∧ _ ∧ _) := ⟨hv, hx, hl, hd⟩
  clear hv hx hl hd
  go_enter Try.func5, Try.ntmps5
  go_wp2_with fail
  refine (octets_any v l _ HV.out.1 HV.out.2.2.1).mono ?_
  rintro r w1 ⟨u, rfl, hown, hb1⟩
  have hu := bytesAt_owned hown
  have HU : Hid (_ ∧ _) := ⟨hu, hb1⟩
  clear hown hu hb1
  go_wp2_with fail
  refine (decode_at u l e c _ HV.out.2.2.2 HU.out.1 HV.out.2.1 HV.out.2.2.1).mono ?_
  rintro r w2 ⟨rfl, hb2⟩
  have HB2 : Hid (Below w.heap.size w w2) := below_tr HU.out.2 hb2
  have HU2 : Hid (BytesAt w2 u l) := HU.out.1.below hb2
  clear hb2
  go_wp2_with fail
  have hv3 := fun x => HV.out.1.below (w' := w2.alloc x) (HB2.out.alloc HB2.out.size _)
  refine (read_at v l e c _ HV.out.2.2.2 (hv3 _) HV.out.2.1 HV.out.2.2.1).mono ?_
  rintro r w3 ⟨rfl, hb3⟩
  have hE3 : EvAt w3 w2.heap.size e := EvAt.below (heap_new w2 _) hb3 (by simp)
  have h3 := hb3.size
  simp only [World.size_alloc] at h3
  have HB3 : Hid (Below w2.heap.size w2 w3) := ((Below.refl _ _).alloc (Nat.le_refl _) _).trans (hb3.mono (by simp))
  have hl3 := hE3.lt
  obtain ⟨e0, e1, e2, e3, e4, e5, e6, e7⟩ := hE3.all
  clear hb3 hE3 hv3
  go_wp2_with fail
  have hu4 : ∀ x, BytesAt (w3.alloc x) u l := fun x => HU2.out.below (HB3.out.alloc HB3.out.size _)
  have hv4 : ∀ x, BytesAt (w3.alloc x) v l := fun x => HV.out.1.below (((HB2.out.trans (HB3.out.mono HB2.out.size))).alloc (by have := HB2.out.size; omega) _)
  refine (same_yes u v l _ (hu4 _) (hv4 _)).mono ?_
  rintro r w4 ⟨rfl, rfl⟩
  clear hu4 hv4
  go_wp2
  go_ret
  exact ⟨rfl, (HB2.out.trans (HB3.out.mono HB2.out.size)).alloc (by have := HB2.out.size; omega) _⟩

set_option maxRecDepth 100000 in
theorem lifted (os : Os) (started : os.Started) (H : Type) (enc : TypeId × Value → H) :
    ReturnsInHanded {} Try.checked os 5 .any (Rows.wireDecodesSpec.pre6 enc Try.prog Try.f5 Rows.wireDecodesRow.domain false) (Rows.wireDecodesSpec.post enc Try.prog Try.f5 false true false false) := by
  refine returnsInHanded_of_change_sized (C := Try.checked) own started (by kernel_rfl) Try.func5
    (ChangeSpec.witness6 (enc := enc) (C := Try.checked) false ⟨#[], #[.slice none 0 0], []⟩ 8 (by kernel_rfl) (by kernel_rfl) (by kernel_rfl) (by kernel_rfl)) ?_
  intro W base args ds gs before hval0 hW hcnd hsz0 _
  have hval : ∀ (j : Nat) t v, Try.f5.params[j]? = some t → args[j]? = some v → Value.okWide Try.prog W .any base t v := hval0
  have hW' := hW
  obtain ⟨p, q, hA0, hV, rfl, hfz, hnd⟩ := hW
  have hA : DataW.TrodAll enc Try.prog W 0 (fun _ => true) true Try.f5.params.toList args.toList ds p := hA0
  have hsz : (DataW.weightsEach Try.prog (Try.f5.params.toList ++ Rows.wireDecodesSpec.plain.varTypes Try.prog) (ds ++ gs)).all (· ≤ reachBytes) = true := hsz0
  rw [Try.params5] at hA hval hsz
  obtain ⟨v0, vs0, d0, ds0, p0, q0, hargs, rfl, rfl, h0, r0⟩ := trodAll_cons hA
  obtain ⟨rfl, rfl, rfl⟩ := trodAll_nil r0
  obtain rfl : args = #[v0] := by cases args; simp_all
  obtain ⟨rfl, rfl⟩ := trodVars_none hV
  have k0 := h0
  have lt0 : ∀ x ∈ p0, x.block < W.heap.size := by obtain ⟨m, hm⟩ := k0; exact DataW.trod_lt m _ _ _ hm
  obtain ⟨l0, w0, x0, z0⟩ := open_bytes (hval 0 27 v0 rfl rfl) h0
  have b0 : l0.length ≤ 140737488351232 := by
    rcases z0 with ⟨el, sp, rfl, he⟩ | rfl
    · have := sized_slice hsz (j := 0) (t := 27) (e := 5) rfl rfl Try.underlying27
      rw [bytes5] at this
      unfold reachBytes at this
      omega
    · simp
  clear z0
  clear hA0 hval0
  refine (walk v0 l0 w0 x0 b0 (w := W)).mono fun e W' ⟨he, bel⟩ => ?_
  subst he
  exact ⟨_, rfl, _, _, _, [], _, [], hW', trodAll_mk1 (shut_bool Try.underlying4 _), (trodAll_cons_mk (Below.trod laidOut (by kernel_rfl) (of_decide_eq_true (by kernel_rfl)) k0 bel lt0) trodAll_mk0), rfl, bel.frame _, fun h => by cases h⟩

theorem over : Rows.wireDecodesRow.holds Try.pinned (OpenSpec.ofChange Rows.wireDecodesSpec) :=
  OpenClaim.holds_of_wide 5 Try.f5 rfl rfl rfl rfl rfl rfl rfl ⟨rfl, rfl, rfl, rfl, rfl⟩ rfl rfl rfl rfl rfl (by kernel_rfl) Try.func5 (by kernel_rfl)
    (of_decide_eq_true (by kernel_rfl)) (by unfold Func.isWrapper; first | (rw [if_pos (by decide +kernel)]; kernel_rfl) | (rw [if_neg (by decide +kernel)]; exact ⟨rfl, rfl⟩))
    (fun os started H enc _ => lifted os started H enc)

theorem proved : Rows.WireDecodesSaid :=
  over
#print axioms proved
end Go.Proofs.Ytcafnliedkhjmaa.wireDecodes
