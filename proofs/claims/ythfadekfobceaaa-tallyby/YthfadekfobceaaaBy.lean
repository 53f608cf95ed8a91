/-
  By. Condition: the outputs can be read.
-/
import Derived.Test.YthfadekfobceaaaWh
import Derived.Test.YthfadekfobceaaaSame
import Derived.WalkKit
import Derived.ProofKit
import Derived.Handy
import Derived.LoopTactic
import Derived.Below
import Derived.Laws.BitsAllLaws
import Derived.RegionTactic
import Derived.Deep.RegionHeld3
import Derived.Deep.DrawnRows
import Derived.Deep.AppendLies
import Derived.Laws.OwnMore
import Derived.Deep.Onto
import Derived.Deep.QuietTactic
import Derived.BigQuiet
namespace Go.Proofs.Ythfadekfobceaaa.Walks
open Go.RowKit
set_option linter.unusedVariables false
set_option linter.unusedSimpArgs false
attribute [local go_sem ↓] Go.wp_at_zero Go.wp_at_succ
open Go.Maps (has Keyed IsMap)

theorem cnt_step {o : Ou} {f f' : Ou → Bool} (hf : f o = false) (hf' : f' o = true) (b : Int) : ∀ (M : List Ou), M.Nodup → o ∈ M → (∀ p ∈ M, p ≠ o → f' p = f p) → M.countP (fun p => f' p && p.be == b) = M.countP (fun p => f p && p.be == b) + if o.be == b then 1 else 0
  | q :: M, hnd, ho, hoth => by
    obtain ⟨hq, hnd⟩ := List.nodup_cons.1 hnd
    rw [List.countP_cons, List.countP_cons]
    by_cases e : q = o
    · subst e
      have hsame : M.countP (fun p => f' p && p.be == b) = M.countP (fun p => f p && p.be == b) := by
        apply List.countP_congr
        intro p hp
        rw [hoth p (by simp [hp]) (fun e => hq (e ▸ hp))]
      rw [hsame, hf, hf']
      simp
    · have ho2 : o ∈ M := by
        rcases List.mem_cons.1 ho with h | h
        · exact absurd h.symm e
        · exact h
      rw [cnt_step hf hf' b M hnd ho2 (fun p hp => hoth p (by simp [hp])), hoth q (by simp) e]
      omega

theorem lasts_nodup (l : List Ou) : (lasts l).Nodup := (lasts_apart l).imp fun h e => h (by rw [e]; exact ⟨rfl, rfl⟩)

theorem lasts_len : ∀ l : List Ou, (lasts l).length ≤ l.length
  | [] => by simp [lasts]
  | o :: l => by
    unfold lasts
    have := lasts_len l
    split
    · simp; omega
    · simp; omega

/-- How many of those that have come are where. -/
def byLeft (P : Program) (t : TypeId) (M : List Ou) (left : Lit → Bool) : List Int := (List.range 12).map fun b : Nat => ((M.countP (fun o => !left (klOf P t o.slot o.gen) && o.be == (b : Int)) : Nat) : Int)

theorem byLeft_len (M : List Ou) (left : Lit → Bool) : (byLeft Try.prog 36 M left).length = 12 := by simp [byLeft]

theorem byLeft_at (M : List Ou) (left : Lit → Bool) (b : Nat) (hb : b < 12) : (byLeft Try.prog 36 M left)[b]'(by rw [byLeft_len]; exact hb) = ((M.countP (fun o => !left (klOf Try.prog 36 o.slot o.gen) && o.be == (b : Int)) : Nat) : Int) := by simp [byLeft]

theorem byLeft_all (l : List Ou) (left : Lit → Bool) (h : ∀ q, left q = false) : byLeft Try.prog 36 (lasts l) left = byL l := by
  unfold byLeft byL
  simp [h]

theorem byLeft_none {H : Type} {D : DataW H} {M : List Ou} (h : MapIs D M) : byLeft Try.prog 36 M (has D) = List.replicate 12 0 := by
  apply List.ext_getElem
  · simp [byLeft]
  · intro j h1 h2
    rw [byLeft_len] at h1
    rw [byLeft_at _ _ _ h1, List.getElem_replicate]
    have : M.countP (fun o => !has D (klOf Try.prog 36 o.slot o.gen) && o.be == (j : Int)) = 0 := by
      rw [List.countP_eq_zero]
      intro o ho
      rw [(h.keys _).2 ⟨o, ho, rfl⟩]
      simp
    rw [this]
    rfl

theorem byLeft_step {H : Type} {D : DataW H} {l : List Ou} (h : MapIs D (lasts l)) {left : Lit → Bool} {o : Ou} (ho : o ∈ lasts l) (hl : left (klOf Try.prog 36 o.slot o.gen) = true) (b : Nat) (hb : o.be = (b : Int)) (hb12 : b < 12) :
    byLeft Try.prog 36 (lasts l) (fun z => left z && !z.sameKey (klOf Try.prog 36 o.slot o.gen)) = (byLeft Try.prog 36 (lasts l) left).set b ((((lasts l).countP (fun o => !left (klOf Try.prog 36 o.slot o.gen) && o.be == (b : Int)) : Nat) : Int) + 1) := by
  have hw := h.key_wf ho
  have hself : (klOf Try.prog 36 o.slot o.gen).sameKey (klOf Try.prog 36 o.slot o.gen) = true := WideAt.sameKey_self (klaw.key (kl_is hw.1 hw.2))
  apply List.ext_getElem
  · simp [byLeft]
  · intro j h1 h2
    rw [byLeft_len] at h1
    rw [byLeft_at _ _ _ h1, List.getElem_set, byLeft_at _ _ _ h1]
    have := cnt_step (o := o) (f := fun o => !left (klOf Try.prog 36 o.slot o.gen)) (f' := fun p => !(left (klOf Try.prog 36 p.slot p.gen) && !(klOf Try.prog 36 p.slot p.gen).sameKey (klOf Try.prog 36 o.slot o.gen))) (by simp [hl]) (by simp [hself]) (j : Int) (lasts l) (lasts_nodup l) ho (fun p hp hne => by
      have hne2 : klOf Try.prog 36 p.slot p.gen ≠ klOf Try.prog 36 o.slot o.gen := by
        intro e
        have hwp := h.key_wf hp
        have e2 := kl_inj hwp.1 hwp.2 hw.1 hw.2 e
        have hap := h.apart
        rw [List.pairwise_iff_forall_sublist] at hap
        obtain ⟨i, hi, rfl⟩ := List.getElem_of_mem hp
        obtain ⟨k, hk, rfl⟩ := List.getElem_of_mem ho
        have hpw := List.pairwise_iff_getElem.1 h.apart
        rcases Nat.lt_trichotomy i k with hlt | rfl | hgt
        · exact hpw i k hi hk hlt e2
        · exact hne rfl
        · exact hpw k i hk hi hgt ⟨e2.1.symm, e2.2.symm⟩
      simp [Go.Maps.sameKey_ne hne2])
    rw [this, hb]
    by_cases e : b = j
    · subst e
      simp
    · rw [if_neg e]
      have : ¬ ((b : Int) = (j : Int)) := by omega
      simp [this]

theorem left_lt {M : List Ou} {left : Lit → Bool} {o : Ou} (ho : o ∈ M) (hl : left (klOf Try.prog 36 o.slot o.gen) = true) (b : Int) : M.countP (fun o => !left (klOf Try.prog 36 o.slot o.gen) && o.be == b) < M.length := by
  refine Nat.lt_of_le_of_ne List.countP_le_length fun e => ?_
  have := List.countP_eq_length.1 e o ho
  simp [hl] at this

theorem grown_set (w : World) (b i : Nat) (v : Value) : w.grownBy (w.setCell ⟨b, i, none⟩ v) (some b) :=
  ⟨rfl, rfl, rfl, by simp [World.setCell], fun k _ hne => Below.heap_setCell _ _ _ _ (fun e => hne (by rw [e]))⟩

/-- Counts of backends, in memory that can be read, and an error. -/
def ByRes (O : List Int × Int) (w : World) (r : Ending) (w' : World) : Prop := ∃ p c, r = .returned (.tuple #[.slice p O.1.length c, .int .i64 O.2]) ∧ InAt w' (.slice p O.1.length c) O.1 ∧ Below w.heap.size w w'

theorem made12 : ∀ W, (Instr.makeSlice 40 (.int .i64 12) (.int .i64 12)).run Try.prog W = .ok (.slice (some ⟨W.heap.size, 0, none⟩) 12 12) (W.alloc (.cells (icells (List.replicate 12 0)).toArray 3)) := fun W => by kernel_rfl

set_option maxHeartbeats 8000000 in
set_option maxRecDepth 100000 in
theorem by_any (v : Value) (l : List Ou) (w : World) (hv : OsAt w v l) (hwf : ∀ o ∈ l, OuWf o) :
    Calls Try.prog 19 #[v] w (ByRes (byO l) w) := by
  obtain ⟨p, c, rfl, hc, hm⟩ := RvAt.form hv
  unfold maxLen at hm
  have HV : Hid (_ ∧ _) := ⟨hv, hwf⟩
  clear hv hwf
  obtain ⟨z12, hz12⟩ : ∃ z, z = (icells (List.replicate 12 0)).toArray := ⟨_, rfl⟩
  have hmk : ∀ W, (Instr.makeSlice 40 (.int .i64 12) (.int .i64 12)).run Try.prog W = .ok (.slice (some ⟨W.heap.size, 0, none⟩) 12 12) (W.alloc (.cells z12 3)) := by rw [hz12]; exact made12
  have HZ : Hid _ := hz12
  clear hz12
  go_enter Try.func19, Try.ntmps19
  go_wp2_with fail
  refine (check_any _ l _ HV.out.1).mono ?_
  rintro r w1 ⟨rfl, hb1⟩
  cases hbad : anyBad l
  · rw [if_neg Bool.false_ne_true]
    have H1 : Hid (_ ∧ _) := ⟨hb1, hbad⟩
    clear hb1 hbad
    go_wp2_with fail
    refine (checkBackends_any _ l _ (HV.out.1.below H1.out.1)).mono ?_
    rintro r w2 ⟨rfl, hb2⟩
    cases hbb : anyBadB l
    · rw [if_neg Bool.false_ne_true]
      have hout : byO l = (byL l, 0) := by unfold byO; rw [H1.out.2, hbb]; rfl
      have hbw := H1.out.1.trans (hb2.mono H1.out.1.size)
      obtain ⟨W3, hW3⟩ : ∃ W3, W3 = w2.alloc (.cells z12 3) := ⟨_, rfl⟩
      have hb3 : Below w2.heap.size w2 W3 := by rw [hW3]; exact below_new w2
      have hA3 : Arr 3 12 W3 w2.heap.size (List.replicate 12 0) := by rw [hW3, HZ.out]; exact ⟨heap_alloc_new _ _, by simp⟩
      have hv3 := HV.out.1.below (hbw.trans (hb3.mono hbw.size))
      have H3 : Hid (_ ∧ _ ∧ _ ∧ _ ∧ _ ∧ _ ∧ _) := ⟨hout, hbw, hb3, hA3, hv3, hbb, hW3⟩
      clear hout hbw hb3 hA3 hv3 hbb hb2 hW3
      go_wp2_with fail
      rw [← H3.out.2.2.2.2.2.2]
      refine (where_any (H := Unit) _ l _ H3.out.2.2.2.2.1 HV.out.2).mono ?_
      rintro r w4 ⟨n, D, rfl, hown, hM, hb4⟩
      have hA4 := H3.out.2.2.2.1.below hb4
      have hb24 := H3.out.2.2.1.trans (hb4.mono H3.out.2.2.1.size)
      have hmap : w2.heap.size < W3.heap.size := H3.out.2.2.2.1.lt
      have hml := hown.lt
      have H4 : Hid (_ ∧ _ ∧ _ ∧ _) := ⟨hown, hM, hA4, hb24⟩
      clear hown hM hb4 hA4 hb24 hmk
      go_wp2_with (at_range; refine wpList_range_own _ rfl _ 56 rfl 36 3 klaw Try.underlying56 _ W3.heap.size n D rfl H4.out.1 ?_; intro w5 hrg5 hg5 hs5)
      have hb5 : Below w2.heap.size w2 w5 := H4.out.2.2.2.grown hg5 H4.out.2.2.2.size (fun j hj => by cases hj)
      have hA5 : Arr 3 12 w5 w2.heap.size (byLeft Try.prog 36 (lasts l) (has D)) := by
        rw [byLeft_none H4.out.2.1]
        exact H4.out.2.2.1.keep (hg5.block _ H4.out.2.2.1.lt (by simp))
      have H5 : Hid (_ ∧ _ ∧ _) := ⟨hrg5, hb5, hA5⟩
      clear hrg5 hg5 hs5 hb5 hA5
      go_frame
      go_loopw [8] (fun _ wr => ∃ left cnt, wr.ranges Try.prog 36 (plainElem Try.prog 3) W3.heap.size w4.heap.size n D left cnt ∧ Below w2.heap.size w2 wr ∧ Arr 3 12 wr w2.heap.size (byLeft Try.prog 36 (lasts l) left)) (fun _ wr => wr.rangeLeft W3.heap.size w4.heap.size)
      case atStart => exact ⟨_, _, H5.out⟩
      case round =>
        obtain ⟨left, cnt, hrg, hb, hA⟩ := hrel
        have HR : Hid (_ ∧ _ ∧ _) := ⟨hrg, hb, hA⟩
        clear hrg hb hA
        go_wp2_with (at_next; refine wpList_next_ranges (α := Value) _ rfl _ rfl 36 klaw (plainElem Try.prog 3) (fun x => x) (Value.int .i64) (fun key kl h => ⟨key, rfl⟩) (fun v y hv => by obtain ⟨c, rfl, _⟩ := plainElem_int_inv Try.underlying3 hv; exact ⟨c, rfl⟩) W3.heap.size w4.heap.size n D left cnt rfl HR.out.1 ?_ ?_)
        · intro _ hl0
          have hA := HR.out.2.2
          rw [byLeft_all l left hl0] at hA
          have H6 : Hid _ := hA
          clear hA hl0
          go_wp2
          go_ret2
          rw [H3.out.1]
          refine ⟨some ⟨w2.heap.size, 0, none⟩, 12, ?_, ?_, H3.out.2.1.trans (HR.out.2.1.mono H3.out.2.1.size)⟩
          · show _ = Ending.returned (.tuple #[.slice _ (byL l).length 12, .int .i64 0])
            rw [byL_len]
            rfl
          · show InAt _ (.slice _ (byL l).length 12) (byL l)
            rw [byL_len]
            exact Arr.inAt H6.out (by unfold maxLen; omega)
        · intro x cv kx y1 y2 w6 cnt6 hkx hlk hv6 hat hrg6 hlt6 hg6 hs6 hen
          obtain ⟨o, ho, hko⟩ := (H4.out.2.1.keys kx).1 (Go.Maps.has_true_of_atKey hat)
          have hbe0 := H4.out.2.1.vals o ho (.lit (.bool false))
          rw [← hko, hat] at hbe0
          obtain ⟨cv', ecv, hy, hwc⟩ := plainElem_int_inv Try.underlying3 hv6
          cases ecv
          cases hy
          have hcb : cv = o.be := by simpa using hbe0
          have hob := badB_not (anyBadB_at H3.out.2.2.2.2.2.1 (lasts_mem ho).1)
          obtain ⟨b, hbN⟩ := Int.eq_ofNat_of_zero_le hob.1
          have hb12 : b < 12 := by omega
          rw [hbN] at hcb
          subst hcb
          subst hko
          have hA6 : Arr 3 12 w6 w2.heap.size (byLeft Try.prog 36 (lasts l) left) := HR.out.2.2.keep (hg6.block _ HR.out.2.2.lt (by simp; omega))
          have hb6 : Below w2.heap.size w2 w6 := HR.out.2.1.grown hg6 HR.out.2.1.size (fun j hj => by cases hj; omega)
          have hcl := hA6.cell b (by rw [byLeft_len]; exact hb12)
          have hfz := hA6.frozen b
          have hat2 := byLeft_at (lasts l) left b hb12
          have hst := byLeft_step H4.out.2.1 ho hlk b hbN hb12
          rw [hat2] at hcl
          have hle : (lasts l).countP (fun o => !left (klOf Try.prog 36 o.slot o.gen) && o.be == (b : Int)) ≤ l.length := Nat.le_trans List.countP_le_length (lasts_len l)
          obtain ⟨m, hm'⟩ : ∃ m, m = (lasts l).countP (fun o => !left (klOf Try.prog 36 o.slot o.gen) && o.be == (b : Int)) := ⟨_, rfl⟩
          rw [← hm'] at hcl hst hle
          have hlt : m < l.length := by rw [hm']; exact Nat.lt_of_lt_of_le (left_lt ho hlk (b : Int)) (lasts_len l)
          have hbI : (b : Int) < 12 := by omega
          have hA6l := hA6.lt
          have H6 : Hid (_ ∧ _ ∧ _ ∧ _ ∧ _ ∧ _) := ⟨hA6, hb6, hst, hrg6, hlt6, HR.out.1⟩
          clear hA6 hb6 hst hrg6 hlt6 hat2 hm' hat hbe0 hob hv6 hwc hkx hlk ho hbN hg6 hs6 hle
          go_wp2
          go_roundw
          case rel =>
            refine ⟨_, cnt6, H6.out.2.2.2.1.kept (grown_set _ _ _ _) ?_ ?_, H6.out.2.1.setCell (p := ⟨w2.heap.size, b, none⟩) (Nat.le_refl _) _, ?_⟩
            · simp; omega
            · simp; omega
            · rw [H6.out.2.2.1]
              exact H6.out.1.set b _
          case measure =>
            rw [H6.out.2.2.2.2.2.left_eq, (H6.out.2.2.2.1.kept (grown_set _ w2.heap.size b _) (by simp; omega) (by simp; omega)).left_eq]
            exact H6.out.2.2.2.2.1
    · rw [if_pos rfl]
      have hout : byO l = ([], 2) := by unfold byO; rw [H1.out.2, hbb]; rfl
      have HB : Hid (_ ∧ _) := ⟨H1.out.1.trans (hb2.mono H1.out.1.size), hout⟩
      clear hbb hout hb2 hmk
      go_wp2
      go_ret2
      rw [HB.out.2]
      exact ⟨none, 0, rfl, inAt_nil _, HB.out.1⟩
  · rw [if_pos rfl]
    have hout : byO l = ([], 5) := by unfold byO; rw [hbad]; rfl
    have HB : Hid (_ ∧ _) := ⟨hb1, hout⟩
    clear hbad hout hb1 hmk
    go_wp2
    go_ret2
    rw [HB.out.2]
    exact ⟨none, 0, rfl, inAt_nil _, HB.out.1⟩
end Go.Proofs.Ythfadekfobceaaa.Walks
