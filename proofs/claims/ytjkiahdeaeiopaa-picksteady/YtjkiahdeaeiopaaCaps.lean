/-
  bound.Caps and the document's CapsOf. Condition: the loads can be read.
-/
import Derived.Test.YtjkiahdeaeiopaaMay
import Derived.WalkKit
import Derived.ProofKit
import Derived.Handy
import Derived.LoopTactic
import Derived.Below
import Derived.Laws.BitsAllLaws
import Derived.RegionTactic
import Derived.Deep.RegionHeld3
import Derived.Deep.DrawnRows
import Derived.Deep.AppendLies
import Derived.Laws.OwnMore
import Derived.Deep.Onto
import Derived.Deep.QuietTactic
import Derived.BigQuiet
namespace Go.Proofs.Ytjkiahdeaeiopaa.Walks
open Go.RowKit
set_option linter.unusedVariables false
set_option linter.unusedSimpArgs false
attribute [local go_sem ↓] Go.wp_at_zero Go.wp_at_succ

def capE (a b c t : Int) (x : Ld) : Int := if x.2.1 = 0 then 0 else capV a b c x.2.1 t

def capsL (a b c : Int) (l : List Ld) : List Int := l.map (capE a b c (tot l))

/-- What Caps answers. -/
def capsOut (l : List Ld) (a b c : Int) : Int × List Int := if lokB l then if Fac a b c then (0, capsL a b c l) else (2, []) else (6, [])

def CapsRes (o : Int × List Int) (w : World) (r : Ending) (w' : World) : Prop := ∃ y, r = .returned (.tuple #[y, .int .i64 o.1]) ∧ IntsAt w' y o.2 ∧ Below w.heap.size w w'

theorem fits_of {l : List Ld} {a b c : Int} (hok : LOk l) (hf : Fac a b c) {x : Ld} (hx : x ∈ l) (h0 : x.2.1 ≠ 0) : Fits a b c x.2.1 (tot l) := by
  have h1 := (okFrom_all hok.2 x hx).1
  have h2 := tot_ge l (okFrom_all hok.2) x hx
  have h3 := tot_bd l (okFrom_all hok.2)
  have h4 := hok.1
  exact ⟨hf, by omega, h2, by omega⟩

/-- The first k caps, and zeros. -/
def capsTo (m : List Int) (k : Nat) : List Int := m.take k ++ List.replicate (m.length - k) 0

theorem capsTo_len (m : List Int) (k : Nat) (h : k ≤ m.length) : (capsTo m k).length = m.length := by
  simp [capsTo]; omega

theorem capsTo_at (m : List Int) (k : Nat) (h : k < m.length) : (capsTo m k)[k]'(by rw [capsTo_len m k (by omega)]; exact h) = 0 := by
  unfold capsTo
  rw [List.getElem_append_right (by simp; omega)]
  simp

theorem capsTo_set (m : List Int) (k : Nat) (h : k < m.length) : (capsTo m k).set k m[k] = capsTo m (k + 1) := by
  unfold capsTo
  rw [List.set_append_right _ _ (by simp; omega)]
  have e : k - (m.take k).length = 0 := by simp; omega
  have e2 : m.length - k = (m.length - (k + 1)) + 1 := by omega
  rw [e, e2, List.replicate_succ, List.set_cons_zero, List.take_succ_eq_append_getElem h, List.append_assoc]
  rfl

theorem capsTo_zero (m : List Int) (k : Nat) (h : k < m.length) (h0 : m[k] = 0) : capsTo m k = capsTo m (k + 1) := by
  rw [← capsTo_set m k h, h0]
  have := capsTo_at m k h
  refine (List.ext_getElem (by simp) fun i h1 h2 => ?_)
  rw [List.getElem_set]
  split
  · subst_vars; exact this
  · rfl

theorem capsTo_put {m : List Int} {k : Nat} {x : Int} (h : m[k]? = some x) : (capsTo m k).set k x = capsTo m (k + 1) := by
  obtain ⟨h1, rfl⟩ := List.getElem?_eq_some_iff.1 h
  exact capsTo_set m k h1

theorem capsTo_skip {m : List Int} {k : Nat} (h : m[k]? = some 0) : capsTo m k = capsTo m (k + 1) := by
  obtain ⟨h1, h2⟩ := List.getElem?_eq_some_iff.1 h
  exact capsTo_zero m k h1 h2

theorem capsTo_all (m : List Int) : capsTo m m.length = m := by simp [capsTo]

theorem capsTo_none (m : List Int) : capsTo m 0 = List.replicate m.length 0 := by simp [capsTo]

theorem madeN (n : Nat) (hn : n ≤ 40) (W : World) : (Instr.makeSlice 22 (.int .i64 (n : Int)) (.int .i64 (n : Int))).run Try.prog W = .ok (.slice (some ⟨W.heap.size, 0, none⟩) n n) (W.alloc (.cells (icells (List.replicate n 0)).toArray 3)) := by
  obtain ⟨i1, hj, hy0, hy1, hy2⟩ := info_parts infoInt
  have h := run_makeSlice (P := Try.prog) W 22 3 i1 _ Try.underlying22 hj hy0 .i64 .i64 n n (by omega) (by omega) (by rw [hy1]; omega) (by rw [hy2]; omega) (by omega)
  have e : madeCells (Value.int .i64 0).cells (n * 1) = (icells (List.replicate n 0)).toArray := by
    rw [Nat.mul_one]
    apply Array.toList_inj.1
    exact (toList_madeCells_one (.int .i64 0) n).trans (by simp [icells])
  rw [h, hy1, Int.toNat_natCast, e]

set_option maxHeartbeats 4000000 in
set_option maxRecDepth 100000 in
theorem caps_any (v : Value) (l : List Ld) (a b c : Int) (w : World) (hv : LdAt w v l) :
    Calls Try.prog 21 #[v, .int .i64 a, .int .i64 b, .int .i64 c] w (CapsRes (capsOut l a b c) w) := by
  obtain ⟨p, ca, rfl, hca, hma, _⟩ := hv.parts
  have HV : Hid (_ ∧ True) := ⟨hv, trivial⟩
  clear hv
  unfold maxLen at hma
  cases hok : lokB l
  · have hout : capsOut l a b c = (6, []) := by unfold capsOut; rw [hok, if_neg Bool.false_ne_true]
    rw [hout]
    clear hout
    go_enter Try.func21, Try.ntmps21
    go_wp2_with fail
    refine (mayBe_any _ l _ HV.out.1).mono ?_
    rw [hok]
    rintro r w1 ⟨rfl, hb1⟩
    have HB : Hid _ := hb1
    clear hb1
    go_wp2
    go_ret2
    exact ⟨_, rfl, intsAt_nil _, HB.out⟩
  cases hf : decide (Fac a b c)
  · have hout : capsOut l a b c = (2, []) := by unfold capsOut; rw [if_pos hok, if_neg (of_decide_eq_false hf)]
    rw [hout]
    clear hout
    go_enter Try.func21, Try.ntmps21
    go_wp2_with fail
    refine (mayBe_any _ l _ HV.out.1).mono ?_
    rw [hok]
    rintro r w1 ⟨rfl, hb1⟩
    have HB : Hid _ := hb1
    clear hb1
    go_wp2_with fail
    refine (maySet_any _ _ _ _).mono ?_
    rw [hf]
    rintro r w2 ⟨rfl, rfl⟩
    go_wp2
    go_ret2
    exact ⟨_, rfl, intsAt_nil _, HB.out⟩
  have hout : capsOut l a b c = (0, capsL a b c l) := by unfold capsOut; rw [if_pos hok, if_pos (of_decide_eq_true hf)]
  rw [hout]
  have hl12 := (lokB_iff.1 hok).1
  have HF : Hid (LOk l ∧ Fac a b c) := ⟨lokB_iff.1 hok, of_decide_eq_true hf⟩
  have hmk := madeN l.length (by omega)
  obtain ⟨Z, hZ⟩ : ∃ Z, Z = (icells (List.replicate l.length 0)).toArray := ⟨_, rfl⟩
  rw [← hZ] at hmk
  have HZ : Hid _ := hZ
  clear hZ hout
  go_enter Try.func21, Try.ntmps21
  go_wp2_with fail
  refine (mayBe_any _ l _ HV.out.1).mono ?_
  rw [hok]
  rintro r w1 ⟨rfl, hb1⟩
  have HB : Hid _ := hb1
  clear hb1
  go_wp2_with fail
  refine (maySet_any _ _ _ _).mono ?_
  rw [hf]
  rintro r w2 ⟨rfl, rfl⟩
  clear hok hf
  go_wp2_with fail
  refine (totalOf_any _ l _ (HV.out.1.below HB.out) HF.out.1).mono ?_
  rintro r w2 ⟨rfl, hb2⟩
  have HC : Hid _ := HB.out.trans (hb2.mono HB.out.size)
  clear hb2 HB
  obtain ⟨t, ht⟩ : ∃ t, t = tot l := ⟨_, rfl⟩
  rw [← ht]
  obtain ⟨m, hm⟩ : ∃ m, m = capsL a b c l := ⟨_, rfl⟩
  have hml : m.length = l.length := by rw [hm]; simp [capsL]
  have hmat : ∀ k (h : k < l.length), m[k]? = some (capE a b c t l[k]) := fun k h => by
    subst hm ht
    simp [capsL, h]
  have HM : Hid (_ ∧ _ ∧ _ ∧ _) := ⟨ht, hm, hml, hmat⟩
  clear ht hm hml hmat
  go_wp2
  obtain ⟨W3, hW3⟩ : ∃ W3, W3 = w2.alloc (.cells Z 3) := ⟨_, rfl⟩
  have hb3 : Below w2.heap.size w2 W3 := by rw [hW3]; exact below_newL _
  have hA3 : Arr 3 l.length W3 w2.heap.size (capsTo m 0) := by rw [hW3, HZ.out, capsTo_none, HM.out.2.2.1]; exact ⟨heap_alloc_new _ _, by simp⟩
  rw [← hW3]
  have HX : Hid (_ ∧ _ ∧ _) := ⟨hA3, HC.out.trans (hb3.mono HC.out.size), HC.out.size⟩
  clear hA3 hb3 hW3 hmk HC
  go_loopw [31] (fun i wr => ∃ (k : Nat), i = .int .i64 k ∧ k ≤ l.length ∧ Arr 3 l.length wr w2.heap.size (capsTo m k) ∧ Below w.heap.size w wr) (fun i _ => l.length - (intOf i).toNat)
  case atStart => exact ⟨0, rfl, Nat.zero_le _, HX.out.1, HX.out.2.1⟩
  case round =>
    obtain ⟨k, rfl, hk, hA, hb⟩ := hrel
    by_cases hlt : k < l.length
    · obtain ⟨_, _, e0, _, _, pa⟩ := HV.out.1.parts
      obtain ⟨b1, o1, rfl, hb1, c1, c2, c3⟩ := (by injection e0 with e0; subst e0; exact pa k hlt : ∃ b off, p = some ⟨b, off, none⟩ ∧ b < w.heap.size ∧ w.cell? ⟨b, off + k * 3, none⟩ = some (.int .i64 l[k].1) ∧ w.cell? ⟨b, off + k * 3 + 1, none⟩ = some (.int .i64 l[k].2.1) ∧ w.cell? ⟨b, off + k * 3 + 2, none⟩ = some (.int .i64 l[k].2.2))
      clear pa e0
      replace c1 := (hb.cell (p := ⟨b1, o1 + k * 3, none⟩) hb1).trans c1
      replace c2 := (hb.cell (p := ⟨b1, o1 + k * 3 + 1, none⟩) hb1).trans c2
      replace c3 := (hb.cell (p := ⟨b1, o1 + k * 3 + 2, none⟩) hb1).trans c3
      have hmk : m[k]? = some (capE a b c t l[k]) := HM.out.2.2.2 k hlt
      have hfit : l[k].2.1 ≠ 0 → Fits a b c l[k].2.1 t := fun h0 => by rw [HM.out.1]; exact fits_of HF.out.1 HF.out.2 (List.getElem_mem hlt) h0
      obtain ⟨⟨x1, x2, x3⟩, hx⟩ : ∃ x, x = l[k] := ⟨_, rfl⟩
      rw [← hx] at c1 c2 c3 hmk hfit
      have hbl1 : b1 < wr.heap.size := Nat.lt_of_lt_of_le hb1 hb.size
      have hg := hA.lt
      have hcg := hA.cell k (by rw [capsTo_len m k (by rw [HM.out.2.2.1]; omega), HM.out.2.2.1]; exact hlt)
      rw [capsTo_at m k (by rw [HM.out.2.2.1]; exact hlt)] at hcg
      have hfg := hA.frozen k
      have hbn : Below w.heap.size w (wr.alloc (.cells #[.int .i64 x1, .int .i64 x2, .int .i64 x3] 37)) := hb.alloc hb.size _
      have hAn : Arr 3 l.length (wr.alloc (.cells #[.int .i64 x1, .int .i64 x2, .int .i64 x3] 37)) w2.heap.size (capsTo m k) := hA.below (below_newL _)
      have hkd : (k : Int) < (l.length : Int) := by omega
      have H : Hid (_ ∧ _ ∧ _ ∧ _ ∧ _ ∧ _) := ⟨hAn, hbn, hmk, hfit, hA, hb⟩
      clear hAn hbn hmk hx hA hb hb1 hfit
      cases h0 : (x2 == 0)
      · have hx0 : x2 ≠ 0 := by simpa using h0
        have hfit := H.out.2.2.2.1 hx0
        have G : Hid (m[k]? = some (capV a b c x2 t)) := by
          rw [H.out.2.2.1]
          unfold capE
          rw [if_neg hx0]
          rfl
        clear hx0
        have HFit : Hid (_ ∧ True) := ⟨hfit, trivial⟩
        clear hfit
        go_wp2_with fail
        refine (cap_ok _ _ _ _ _ _ HFit.out.1).mono ?_
        rintro r w' ⟨rfl, rfl⟩
        obtain ⟨cv, hcv⟩ : ∃ cv, cv = capV a b c x2 t := ⟨_, rfl⟩
        rw [← hcv]
        have HCV : Hid _ := hcv
        clear hcv
        go_wp2
        go_roundw
        case rel =>
          have h1 := H.out.2.2.2.2.1.set k cv
          rw [capsTo_put (by rw [HCV.out]; exact G.out)] at h1
          have h2 : Below w.heap.size w (wr.setCell ⟨w2.heap.size, k, none⟩ (.int .i64 cv)) := H.out.2.2.2.2.2.setCell (by exact HX.out.2.2) _
          exact ⟨k + 1, by simp, hlt, h1.below (below_newL _), h2.alloc h2.size _⟩
        case measure => simp [intOf]; omega
      · have hx0 : x2 = 0 := by simpa using h0
        have G : Hid (m[k]? = some 0) := by
          rw [H.out.2.2.1]
          unfold capE
          rw [if_pos hx0]
          rfl
        subst hx0
        clear h0
        go_wp2
        go_roundw
        case rel => exact ⟨k + 1, by simp, hlt, by rw [← capsTo_skip G.out]; exact H.out.1, H.out.2.1⟩
        case measure => simp [intOf]; omega
    · obtain rfl : k = l.length := by omega
      have H : Hid (_ ∧ _) := ⟨hA, hb⟩
      clear hA hb
      go_wp2
      go_ret2
      refine ⟨_, rfl, ?_, H.out.2⟩
      have := H.out.1.intsAt (by omega)
      rw [← HM.out.2.2.1, capsTo_all] at this
      rw [← HM.out.2.1]
      rw [HM.out.2.2.1] at this
      exact this
end Go.Proofs.Ytjkiahdeaeiopaa.Walks
