/-
  For every slice of bytes: what Decode reads of it Encode lays as just those bytes; where it reads none, its event has nothing set. No condition.
-/
import Derived.Test.YtcafnliedkhjmaaRows
import Derived.Test.YtcafnliedkhjmaaOpen
import Derived.Test.YtcafnliedkhjmaaAt
import Derived.Test.YtcafnliedkhjmaaOpen2
import Derived.SizedLaws
import Derived.WalkKit
import Derived.ProofKit
import Derived.OpenShut
import Derived.ShutString
import Derived.ChangeOld
import Derived.Below
namespace Go.Proofs.Ytcafnliedkhjmaa.wireFixed
open Go.ChangeShapes Go.WideShapes Go.ChangeAt Go.RowKit
open Go.ChangeMaps (open_string shut_string)
open Go.Proofs.Ytcafnliedkhjmaa.Plain Go.Proofs.Ytcafnliedkhjmaa.Walks Go.Proofs.Ytcafnliedkhjmaa.Opens
set_option linter.unusedVariables false

theorem own : ownKnob Try.prog.godebug = none := by kernel_rfl
theorem laidOut : laidOutB Try.prog = true := by kernel_rfl

theorem src_cells {w : World} {b off : Nat} {l : List Nat} (hcell : ∀ i, i < l.length → w.cell? ⟨b, off + i, none⟩ = some (.int .u8 ((l.getD i 0 : Nat) : Int))) :
    ∀ j u, (bcells l)[j]? = some u → w.cell? ((⟨b, off, none⟩ : Addr).add j) = some u := by
  intro j u hj
  have hjl : j < l.length := by
    rcases Nat.lt_or_ge j l.length with h | h
    · exact h
    · rw [List.getElem?_eq_none (by simpa [bcells] using h)] at hj; cases hj
  rw [add_none, hcell j hjl, ← hj]
  simp [bcells, List.getElem?_map, List.getElem?_eq_getElem hjl, List.getD]

set_option maxHeartbeats 1000000 in
theorem walk (v : Value) (l : List Nat) {w : World} (hv : BytesAt w v l) (hx : ∀ x ∈ l, x < 256) (hl : l.length ≤ 140737488351232) :
    Calls Try.prog 7 #[v] w fun r w' => r = .returned (.bool true) ∧ Below w.heap.size w w' := by
  obtain ⟨i0, hi, hz0, hz1, hz2⟩ := info_parts Try.info5
  have HW : Hid (BytesAt w v l) := hv
  obtain ⟨a, cap, rfl, hc, h⟩ := hv
  by_cases hl0 : l = []
  · subst hl0
    clear h
    have hd : ∀ W, Calls Try.prog 15 #[.slice none 0 0] W fun r w' => r = .returned (.tuple #[.agg #[.int .i64 0, .int .i64 0, .int .i64 0, .int .i64 0, .bool false, .int .i64 0, .int .i64 0, .int .i64 0], .int .i64 4]) ∧ Below W.heap.size W w' :=
      fun W => decode_at _ [] Ev.zero 4 W rfl ⟨none, 0, rfl, Nat.le_refl _, .inl ⟨rfl, rfl⟩⟩ (by simp) (by simp)
    have HD : Hid _ := hd
    clear hd HW
    cases a
    all_goals
      go_enter Try.func7, Try.ntmps7
      go_wp2_with fail
      refine (HD.out _).mono ?_
      rintro r w1 ⟨rfl, hb1⟩
      have hs1 := hb1.size
      have HB : Hid (Below w.heap.size w w1) := hb1
      clear hb1
      go_wp2
      go_ret
      exact ⟨rfl, HB.out.alloc hs1 _⟩
  · rcases h with ⟨_, h⟩ | h | ⟨b, off, rfl, hb, hcell⟩
    · exact absurd h hl0
    · exact absurd h hl0
    · have HN : Hid (_ ∧ _) := ⟨src_cells hcell, hx⟩
      obtain ⟨⟨e, c⟩, hd⟩ : ∃ p, dec l = p := ⟨_, rfl⟩
      have HD : Hid (dec l = (e, c)) := hd
      clear hcell hl0 hd hx
      go_enter Try.func7, Try.ntmps7
      go_wp2_with (at_builtin; refine wpList_append_own _ rfl _ _ 27 rfl w.heap.size 5 i0 (.int .u8 0) 1 1 Try.underlying27 hi hz0 hz1 hz2 rfl (by decide) _ 0 [] rfl (World.ownsRow_nil _ _ _ _) ⟨b, off, none⟩ l.length cap (bcells l) rfl (by simp [bcells]) HN.out.1 (bcells_one _) (by unfold maxLen; omega) (by omega) (Nat.le_refl _) ?_)
      intro v' w1 hown' hgrow _
      have hb1 : Below w.heap.size w w1 := (Below.refl _ _).grown hgrow (Nat.le_refl _) (fun k hk => by cases hk)
      have hown1 : w1.ownsRow w.heap.size 5 1 v' l.length (bcells l) := by simpa using hown'
      have HO : Hid (_ ∧ _) := ⟨bytesAt_owned hown1, hb1⟩
      clear hown' hgrow hb1 hown1
      go_wp2_with fail
      refine (decode_at v' l e c _ HD.out HO.out.1 HN.out.2 hl).mono ?_
      rintro r w2 ⟨rfl, hb2⟩
      have HB2 : Hid (Below w.heap.size w w2) := HO.out.2.trans (hb2.mono HO.out.2.size)
      have hs2 := HB2.out.size
      clear hb2
      by_cases hc0 : c = 0
      · subst hc0
        obtain ⟨hok, hel⟩ := dec_only HN.out.2 HD.out
        have HK : Hid (_ ∧ _) := ⟨hok, hel⟩
        clear hok hel
        go_wp2_with fail
        refine (encode_ok e _ HK.out.1).mono ?_
        rintro r w3 ⟨u, rfl, hown3, hb3⟩
        rw [HK.out.2] at hown3
        have HB3 : Hid (Below w.heap.size w w3) := (HB2.out.alloc hs2 _).trans (hb3.mono (by simp; omega))
        have c1 := conv_bytes (bytesAt_owned hown3)
        have c2 := conv_bytes (HW.out.below HB3.out)
        generalize strOf l = st at *
        clear hown3 hb3
        go_wp2
        go_ret
        exact ⟨rfl, HB3.out⟩
      · have hz : e = Ev.zero := by have := dec_zero (l := l) (by rw [HD.out]; exact hc0); rw [HD.out] at this; exact this
        subst hz
        have hne : (c != 0) = true := by rw [bne_iff_ne]; exact hc0
        clear hc0
        simp only [Ev.zero]
        go_wp2
        go_ret
        exact ⟨rfl, HB2.out.alloc hs2 _⟩

set_option maxRecDepth 100000 in
theorem lifted (os : Os) (started : os.Started) (H : Type) (enc : TypeId × Value → H) :
    ReturnsInHanded {} Try.checked os 7 .any (Rows.wireFixedSpec.pre6 enc Try.prog Try.f7 Rows.wireFixedRow.domain false) (Rows.wireFixedSpec.post enc Try.prog Try.f7 false true false false) := by
  refine returnsInHanded_of_change_sized (C := Try.checked) own started (by kernel_rfl) Try.func7
    (ChangeSpec.witness6 (enc := enc) (C := Try.checked) false ⟨#[], #[.slice none 0 0], []⟩ 8 (by kernel_rfl) (by kernel_rfl) (by kernel_rfl) (by kernel_rfl)) ?_
  intro W base args ds gs before hval0 hW hcnd hsz0 _
  have hval : ∀ (j : Nat) t v, Try.f7.params[j]? = some t → args[j]? = some v → Value.okWide Try.prog W .any base t v := hval0
  have hW' := hW
  obtain ⟨p, q, hA0, hV, rfl, hfz, hnd⟩ := hW
  have hA : DataW.TrodAll enc Try.prog W 0 (fun _ => true) true Try.f7.params.toList args.toList ds p := hA0
  have hsz : (DataW.weightsEach Try.prog (Try.f7.params.toList ++ Rows.wireFixedSpec.plain.varTypes Try.prog) (ds ++ gs)).all (· ≤ reachBytes) = true := hsz0
  rw [Try.params7] at hA hval hsz
  obtain ⟨v0, vs0, d0, ds0, p0, q0, hargs, rfl, rfl, h0, r0⟩ := trodAll_cons hA
  obtain ⟨rfl, rfl, rfl⟩ := trodAll_nil r0
  obtain rfl : args = #[v0] := by cases args; simp_all
  obtain ⟨rfl, rfl⟩ := trodVars_none hV
  have k0 := h0
  have lt0 : ∀ x ∈ p0, x.block < W.heap.size := by obtain ⟨m, hm⟩ := k0; exact DataW.trod_lt m _ _ _ hm
  obtain ⟨l0, w0, x0, z0⟩ := open_bytes (hval 0 27 v0 rfl rfl) h0
  have b0 : l0.length ≤ 140737488351232 := by
    rcases z0 with ⟨el, sp, rfl, he⟩ | rfl
    · have := sized_slice hsz (j := 0) (t := 27) (e := 5) rfl rfl Try.underlying27
      rw [bytes5] at this
      unfold reachBytes at this
      omega
    · simp
  clear z0
  clear hA0 hval0
  refine (walk v0 l0 w0 x0 b0 (w := W)).mono fun e W' ⟨he, bel⟩ => ?_
  subst he
  exact ⟨_, rfl, _, _, _, [], _, [], hW', trodAll_mk1 (shut_bool Try.underlying4 _), (trodAll_cons_mk (Below.trod laidOut (by kernel_rfl) (of_decide_eq_true (by kernel_rfl)) k0 bel lt0) trodAll_mk0), rfl, bel.frame _, fun h => by cases h⟩

theorem over : Rows.wireFixedRow.holds Try.pinned (OpenSpec.ofChange Rows.wireFixedSpec) :=
  OpenClaim.holds_of_wide 7 Try.f7 rfl rfl rfl rfl rfl rfl rfl ⟨rfl, rfl, rfl, rfl, rfl⟩ rfl rfl rfl rfl rfl (by kernel_rfl) Try.func7 (by kernel_rfl)
    (of_decide_eq_true (by kernel_rfl)) (by unfold Func.isWrapper; first | (rw [if_pos (by decide +kernel)]; kernel_rfl) | (rw [if_neg (by decide +kernel)]; exact ⟨rfl, rfl⟩))
    (fun os started H enc _ => lifted os started H enc)

theorem proved : Rows.WireFixedSaid :=
  over
#print axioms proved
end Go.Proofs.Ytcafnliedkhjmaa.wireFixed
