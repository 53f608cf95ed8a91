/-
  The document's tallyFault, countKind, Tallied, LiveFlows. Condition: the outputs can be read.
-/
import Derived.Test.YthfadekfobceaaaOf
import Derived.WalkKit
import Derived.ProofKit
import Derived.Handy
import Derived.LoopTactic
import Derived.Below
import Derived.Laws.BitsAllLaws
import Derived.RegionTactic
import Derived.Deep.RegionHeld3
import Derived.Deep.DrawnRows
import Derived.Deep.AppendLies
import Derived.Laws.OwnMore
import Derived.Deep.Onto
import Derived.Deep.QuietTactic
import Derived.BigQuiet
namespace Go.Proofs.Ythfadekfobceaaa.Walks
open Go.RowKit
set_option linter.unusedVariables false
set_option linter.unusedSimpArgs false
attribute [local go_sem ↓] Go.wp_at_zero Go.wp_at_succ

set_option maxHeartbeats 4000000 in
theorem tallyFault_any (v : Value) (l : List Ou) (w : World) (hv : OsAt w v l) :
    Calls Try.prog 25 #[v] w fun r w' => r = .returned (.int .i64 (if anyBad l then 5 else 0)) ∧ w' = w := by
  obtain ⟨p, c, rfl, hc, hm, pv⟩ := OsAt.parts hv
  unfold maxLen at hm
  clear hv
  obtain ⟨ans, hans⟩ : ∃ ans : Int, ans = if anyBad l then 5 else 0 := ⟨_, rfl⟩
  rw [← hans]
  have H : Hid _ := hans
  clear hans
  go_enter Try.func25, Try.ntmps25
  go_wp2
  go_loopw [3] (fun i wr => ∃ k : Nat, i = .int .i64 k ∧ k ≤ l.length ∧ anyBad (l.take k) = false ∧ w = wr) (fun i _ => l.length - (intOf i).toNat)
  case atStart => exact ⟨0, rfl, Nat.zero_le _, by simp [anyBad], rfl⟩
  case round =>
    obtain ⟨k, rfl, hk, hall, rfl⟩ := hrel
    by_cases hlt : k < l.length
    · obtain ⟨b0, off, rfl, hb0', c1, c2, c3, c4, c5, c6, c7⟩ := pv k hlt
      obtain ⟨⟨kd, sl, gn, be, rq, cd, wy⟩, hx⟩ : ∃ x, x = l[k] := ⟨_, rfl⟩
      have htk := take_snoc hlt hx
      have hmem : (⟨kd, sl, gn, be, rq, cd, wy⟩ : Ou) ∈ l := by rw [hx]; exact List.getElem_mem hlt
      rw [← hx] at c1 c7
      dsimp only at c1 c7
      have hltI : (k : Int) < (l.length : Int) := by omega
      have HX : Hid (_ ∧ _ ∧ _) := ⟨htk, hmem, hall⟩
      clear htk hmem hall hx c2 c3 c4 c5 c6 hb0' pv
      by_cases h1 : 1 ≤ kd ∧ kd ≤ 10
      · by_cases h2 : 0 ≤ wy ∧ wy ≤ 5
        · go_wp2_with fail
          refine (in_any kd 1 10 _).mono ?_
          rintro r w2 ⟨rfl, rfl⟩
          rw [decide_eq_true h1]
          go_wp2_with fail
          refine (in_any wy 0 5 _).mono ?_
          rintro r w2 ⟨rfl, rfl⟩
          rw [decide_eq_true h2]
          go_wp2
          go_roundw
          case rel =>
            refine ⟨k + 1, by simp, hlt, ?_, trivial⟩
            rw [HX.out.1]
            have hb : badO ⟨kd, sl, gn, be, rq, cd, wy⟩ = false := by simp [badO]; omega
            have := HX.out.2.2
            simp only [anyBad, List.any_append, List.any_cons, List.any_nil, hb, Bool.or_false] at this ⊢
            exact this
          case measure => simp [intOf]; omega
        · have HE : Hid (ans = 5) := by
            show ans = 5
            rw [H.out, if_pos]
            exact List.any_eq_true.2 ⟨_, HX.out.2.1, by simp [badO]; omega⟩
          go_wp2_with fail
          refine (in_any kd 1 10 _).mono ?_
          rintro r w2 ⟨rfl, rfl⟩
          rw [decide_eq_true h1]
          go_wp2_with fail
          refine (in_any wy 0 5 _).mono ?_
          rintro r w2 ⟨rfl, rfl⟩
          rw [decide_eq_false h2]
          go_wp2
          go_ret
          exact ⟨by rw [HE.out]; rfl, rfl⟩
      · have HE : Hid (ans = 5) := by
          show ans = 5
          rw [H.out, if_pos]
          exact List.any_eq_true.2 ⟨_, HX.out.2.1, by simp [badO]; omega⟩
        go_wp2_with fail
        refine (in_any kd 1 10 _).mono ?_
        rintro r w2 ⟨rfl, rfl⟩
        rw [decide_eq_false h1]
        go_wp2
        go_ret
        exact ⟨by rw [HE.out]; rfl, rfl⟩
    · obtain rfl : k = l.length := by omega
      rw [List.take_length] at hall
      have HE : Hid (ans = 0) := by
        show ans = 0
        rw [H.out, hall]
        rfl
      clear hall pv
      go_wp2
      go_ret
      exact ⟨by rw [HE.out]; rfl, rfl⟩

def ck (kd wy : Int) (o : Ou) : Bool := decide (o.kind = kd) && (decide (wy < 0) || decide (o.why = wy))

def ckN (l : List Ou) (kd wy : Int) : Nat := l.countP (ck kd wy)

theorem ckN_kind (l : List Ou) (k : Nat) (hk : k < 11) : ckN l k (-1) = cntAt l k := by
  unfold ckN cntAt
  congr 1
  funext o
  simp [ck, hit, hk]
  rfl

theorem ckN_why (l : List Ou) (y : Nat) : ckN l 6 y = cntAt l (11 + y) := by
  unfold ckN cntAt
  congr 1
  funext o
  have : ¬ ((y : Int) < 0) := by omega
  have h2 : ¬ (11 + y < 11) := by omega
  rw [hit, if_neg h2, Nat.add_sub_cancel_left]
  simp [ck, this]
  rfl

theorem ckN_snoc {l : List Ou} {kd wy : Int} {k : Nat} {x : Ou} (h : l.take (k + 1) = l.take k ++ [x]) : ckN (l.take (k + 1)) kd wy = ckN (l.take k) kd wy + (if ck kd wy x then 1 else 0) := by
  rw [h]
  simp [ckN, List.countP_append, List.countP_cons]

set_option maxHeartbeats 4000000 in
theorem countKind_any (v : Value) (l : List Ou) (kd wy : Int) (w : World) (hv : OsAt w v l) :
    Calls Try.prog 26 #[v, .int .i64 kd, .int .i64 wy] w fun r w' => r = .returned (.int .i64 (ckN l kd wy : Nat)) ∧ w' = w := by
  obtain ⟨p, c, rfl, hc, hm, pv⟩ := OsAt.parts hv
  unfold maxLen at hm
  clear hv
  go_enter Try.func26, Try.ntmps26
  go_wp2
  go_loopw [7, 8] (fun n i wr => ∃ k m : Nat, i = .int .i64 k ∧ n = .int .i64 m ∧ k ≤ l.length ∧ Hid (m = ckN (l.take k) kd wy) ∧ m ≤ k ∧ w = wr) (fun _ i _ => l.length - (intOf i).toNat)
  case atStart => exact ⟨0, 0, rfl, rfl, Nat.zero_le _, rfl, Nat.le_refl _, rfl⟩
  case round =>
    obtain ⟨k, m, rfl, rfl, hk, hmm, hmk, rfl⟩ := hrel
    by_cases hlt : k < l.length
    · obtain ⟨b0, off, rfl, hb0', c1, c2, c3, c4, c5, c6, c7⟩ := pv k hlt
      obtain ⟨⟨kx, sl, gn, be, rq, cd, wx⟩, hx⟩ : ∃ x, x = l[k] := ⟨_, rfl⟩
      have hst := ckN_snoc (kd := kd) (wy := wy) (take_snoc hlt hx)
      rw [← hx] at c1 c7
      dsimp only at c1 c7
      have hltI : (k : Int) < (l.length : Int) := by omega
      have HX : Hid (_ ∧ _) := ⟨hst, hmm.out⟩
      clear hst hmm hx c2 c3 c4 c5 c6 hb0' pv
      by_cases h1 : kx = kd
      · by_cases h0 : wy < 0
        · have HC : Hid (ck kd wy ⟨kx, sl, gn, be, rq, cd, wx⟩ = true) := by show _ = _; simp [ck, h1, h0]
          subst h1
          go_wp2
          go_roundw
          case rel => exact ⟨k + 1, m + 1, by simp, by simp, hlt, by show _ = _; rw [HX.out.1, HC.out, HX.out.2]; rfl, by omega, trivial⟩
          case measure => simp [intOf]; omega
        · by_cases h2 : wx = wy
          · have HC : Hid (ck kd wy ⟨kx, sl, gn, be, rq, cd, wx⟩ = true) := by show _ = _; simp [ck, h1, h2]
            subst h1 h2
            go_wp2
            go_roundw
            case rel => exact ⟨k + 1, m + 1, by simp, by simp, hlt, by show _ = _; rw [HX.out.1, HC.out, HX.out.2]; rfl, by omega, trivial⟩
            case measure => simp [intOf]; omega
          · have HC : Hid (ck kd wy ⟨kx, sl, gn, be, rq, cd, wx⟩ = false) := by show _ = _; simp [ck, h2, h0]
            subst h1
            go_wp2
            go_roundw
            case rel => exact ⟨k + 1, m, by simp, rfl, hlt, by show _ = _; rw [HX.out.1, HC.out, HX.out.2]; rfl, by omega, trivial⟩
            case measure => simp [intOf]; omega
      · have HC : Hid (ck kd wy ⟨kx, sl, gn, be, rq, cd, wx⟩ = false) := by show _ = _; simp [ck, h1]
        go_wp2
        go_roundw
        case rel => exact ⟨k + 1, m, by simp, rfl, hlt, by show _ = _; rw [HX.out.1, HC.out, HX.out.2]; rfl, by omega, trivial⟩
        case measure => simp [intOf]; omega
    · obtain rfl : k = l.length := by omega
      rw [List.take_length] at hmm
      clear pv
      go_wp2
      go_ret
      exact ⟨by rw [hmm.out]; rfl, rfl⟩

/-- Counts of the first places. -/
def talTo (l : List Ou) (k : Nat) : List Int := (List.range 17).map fun j => if j < k then (cntAt l j : Int) else 0

theorem talTo_len (l : List Ou) (k : Nat) : (talTo l k).length = 17 := by simp [talTo]

theorem talTo_one {l : List Ou} (h : anyBad l = false) : talTo l 1 = List.replicate 17 0 := by
  have h0 : cntAt l 0 = 0 := by
    unfold cntAt
    rw [List.countP_eq_zero]
    intro o ho
    have := badO_not (anyBad_at h ho)
    simp [hit]
    omega
  apply List.ext_getElem
  · simp [talTo]
  · intro j h1 h2
    simp only [talTo, List.getElem_map, List.getElem_range, List.getElem_replicate]
    split
    · obtain rfl : j = 0 := by omega
      rw [h0]
      rfl
    · rfl

theorem talTo_all (l : List Ou) : talTo l 17 = cntL l := by
  unfold talTo cntL
  apply List.map_congr_left
  intro j hj
  rw [if_pos (List.mem_range.1 hj)]

theorem talTo_succ (l : List Ou) (k : Nat) (hk : k < 17) : talTo l (k + 1) = (talTo l k).set k (cntAt l k : Int) := by
  apply List.ext_getElem
  · simp [talTo]
  · intro j h1 h2
    rw [List.getElem_set]
    simp only [talTo, List.getElem_map, List.getElem_range]
    by_cases e : k = j
    · subst e
      simp
    · rw [if_neg e]
      by_cases e2 : j < k
      · rw [if_pos e2, if_pos (by omega)]
      · rw [if_neg e2, if_neg (by omega)]

set_option maxHeartbeats 8000000 in
set_option maxRecDepth 100000 in
theorem tallied_any (v : Value) (l : List Ou) (w : World) (hv : OsAt w v l) :
    Calls Try.prog 13 #[v] w fun r w' => r = .returned (.tuple #[.agg (icells (ofO l).1).toArray, .int .i64 (ofO l).2]) ∧ Below w.heap.size w w' := by
  obtain ⟨p, c, rfl, hc, hm⟩ := RvAt.form hv
  unfold maxLen at hm
  obtain ⟨W0, hW0⟩ : ∃ W0, W0 = w.alloc (.cells (icells (List.replicate 17 0)).toArray 27) := ⟨_, rfl⟩
  have hb0 : Below w.heap.size w W0 := by rw [hW0]; exact below_new w
  have hA0 : Arr 27 17 W0 w.heap.size (List.replicate 17 0) := by rw [hW0]; exact ⟨heap_alloc_new _ _, by simp⟩
  have HV : Hid (_ ∧ _ ∧ _ ∧ _) := ⟨hv, hb0, hA0, hW0⟩
  clear hv hb0 hA0 hW0
  have hone := all_oneCell_toArray (icells_one (List.replicate 17 0))
  have HO : Hid _ := hone
  clear hone
  go_enter Try.func13, Try.ntmps13
  go_wp2_with fail
  rw [zeros17, ← HV.out.2.2.2]
  refine (tallyFault_any _ l _ (HV.out.1.below HV.out.2.1)).mono ?_
  rintro r w1 ⟨rfl, rfl⟩
  cases hbad : anyBad l
  · rw [if_neg Bool.false_ne_true]
    have hout : ofO l = (cntL l, 0) := by unfold ofO; rw [hbad]; rfl
    have HB : Hid (_ ∧ _) := ⟨hbad, hout⟩
    have hg1 := HV.out.2.2.1.lt
    clear hbad hout
    go_wp2
    rw [zeros17]
    obtain ⟨W2, hW2⟩ : ∃ W2, W2 = w1.alloc (.cells (icells (List.replicate 17 0)).toArray 27) := ⟨_, rfl⟩
    rw [← hW2]
    have hb2 : Below w1.heap.size w1 W2 := by rw [hW2]; exact below_new w1
    have hA2 : Arr 27 17 W2 w1.heap.size (talTo l 1) := by rw [hW2, talTo_one HB.out.1]; exact ⟨heap_alloc_new _ _, by simp⟩
    have H2 : Hid (_ ∧ _) := ⟨hb2, hA2⟩
    clear hb2 hA2 hW2
    go_loopw [6] (fun i wr => ∃ k : Nat, i = .int .i64 k ∧ 1 ≤ k ∧ k ≤ 11 ∧ Below w1.heap.size w1 wr ∧ Arr 27 17 wr w1.heap.size (talTo l k)) (fun i _ => 11 - (intOf i).toNat)
    case atStart => exact ⟨1, rfl, Nat.le_refl _, by omega, H2.out.1, H2.out.2⟩
    case round =>
      obtain ⟨k, rfl, hk0, hk, hb, hA⟩ := hrel
      by_cases hlt : k < 11
      · have hkI : (k : Int) ≤ 10 := by omega
        have hkI2 : (k : Int) < 11 := by omega
        have hCK := countKind_any _ l (k : Int) (-1) wr ((HV.out.1.below HV.out.2.1).below hb)
        rw [ckN_kind l k hlt] at hCK
        have hcl := hA.cell k (by rw [talTo_len]; omega)
        have hfz := hA.frozen k
        obtain ⟨n1, hn1⟩ : ∃ n1, n1 = cntAt l k := ⟨_, rfl⟩
        have hst := talTo_succ l k (by omega)
        rw [← hn1] at hCK hst
        generalize (talTo l k)[k]'(by rw [talTo_len]; omega) = old at hcl
        have hgl := hA.lt
        have HR : Hid (_ ∧ _ ∧ _ ∧ _) := ⟨hCK, hb, hA, hst⟩
        clear hCK hb hA hst hn1
        go_wp2_with fail
        refine Calls.mono HR.out.1 ?_
        rintro r w2 ⟨rfl, rfl⟩
        go_wp2
        go_roundw
        case rel => exact ⟨k + 1, by simp, by omega, hlt, HR.out.2.1.setCell (p := ⟨w1.heap.size, k, none⟩) (Nat.le_refl _) _, by rw [HR.out.2.2.2]; exact HR.out.2.2.1.set k _⟩
        case measure => simp [intOf]; omega
      · have hkd : ¬ ((k : Int) ≤ 10) := by omega
        rw [show talTo l k = talTo l 11 by rw [show k = 11 by omega]] at hA
        have H3 : Hid (_ ∧ _) := ⟨hb, hA⟩
        clear hb hA
        go_wp2
        go_loopw [7] (fun i wr => ∃ k : Nat, i = .int .i64 k ∧ k ≤ 6 ∧ Below w1.heap.size w1 wr ∧ Arr 27 17 wr w1.heap.size (talTo l (11 + k))) (fun i _ => 6 - (intOf i).toNat)
        case atStart => exact ⟨0, rfl, by omega, H3.out.1, H3.out.2⟩
        case round =>
          obtain ⟨k, rfl, hk, hb, hA⟩ := hrel
          by_cases hlt : k < 6
          · have hkI : (k : Int) ≤ 5 := by omega
            have hkI2 : (k : Int) < 6 := by omega
            have hCK := countKind_any _ l 6 (k : Int) wr ((HV.out.1.below HV.out.2.1).below hb)
            rw [ckN_why l k] at hCK
            have hcl := hA.cell (11 + k) (by rw [talTo_len]; omega)
            have hfz := hA.frozen (11 + k)
            obtain ⟨n1, hn1⟩ : ∃ n1, n1 = cntAt l (11 + k) := ⟨_, rfl⟩
            have hst := talTo_succ l (11 + k) (by omega)
            rw [← hn1] at hCK hst
            generalize (talTo l (11 + k))[11 + k]'(by rw [talTo_len]; omega) = old at hcl
            have hgl := hA.lt
            have HR : Hid (_ ∧ _ ∧ _ ∧ _) := ⟨hCK, hb, hA, hst⟩
            clear hCK hb hA hst hn1
            go_wp2_with fail
            refine Calls.mono HR.out.1 ?_
            rintro r w2 ⟨rfl, rfl⟩
            go_wp2
            go_roundw
            case rel => exact ⟨k + 1, by simp, hlt, HR.out.2.1.setCell (p := ⟨w1.heap.size, 11 + k, none⟩) (Nat.le_refl _) _, by rw [← Nat.add_assoc, HR.out.2.2.2]; exact HR.out.2.2.1.set (11 + k) _⟩
            case measure => simp [intOf]; omega
          · obtain rfl : k = 6 := by omega
            rw [show 11 + 6 = 17 from rfl, talTo_all] at hA
            have hA1 := HV.out.2.2.1.below hb
            obtain ⟨W5, hW5⟩ : ∃ W5, W5 = wr.setCells w.heap.size 0 (icells (cntL l)) := ⟨_, rfl⟩
            have hst := (hA1.store (P := Try.prog) (b := cntL l) (cntL_len l) infoC).2
            rw [← hW5] at hst
            have hb5 : Below w.heap.size w W5 := by rw [hW5]; exact below_setCells (HV.out.2.1.trans (hb.mono HV.out.2.1.size)) (Nat.le_refl _) _ _ (Nat.le_trans HV.out.2.1.size hb.size)
            have hi17 : (Try.prog.info? 27).map (·.size) = some (icells (cntL l)).length := by rw [infoC, icells_len, cntL_len]
            have ht17 : wr.there w.heap.size 0 (icells (cntL l)).toArray.size := by simp [icells_len, cntL_len]; exact hA1.there
            have hone := all_oneCell_toArray (icells_one (cntL l))
            have HQ : Hid (_ ∧ _ ∧ _ ∧ _ ∧ _ ∧ _ ∧ _) := ⟨hA.range, hi17, ht17, hone, hW5, hst, hb5⟩
            clear hA hA1 hst hb5 hi17 ht17 hone hW5 hb
            obtain ⟨cs, hcs⟩ : ∃ cs, cs = icells (cntL l) := ⟨_, rfl⟩
            rw [← hcs] at HQ
            have HC : Hid _ := hcs
            clear hcs
            go_wp2_with (first | ((with_reducible refine wpList_load_mid rfl 27 (.tmp 5) rfl w1.heap.size 0 ?hx cs _ ?hc Try.underlying27 ?hd ?hi ?_); (case hx => rfl); (case hc => exact HQ.out.1); (case hd => rfl); (case hi => exact HQ.out.2.1)) | ((with_reducible refine wpList_store_mid rfl 27 (.tmp 2) (.tmp 34) rfl w.heap.size 0 cs.toArray ?hx ?hy ?ht ?hi ?h1 ?_); (case hx => rfl); (case hy => rfl); (case ht => exact HQ.out.2.2.1); (case hi => rw [HQ.out.2.1]; simp); (case h1 => exact HQ.out.2.2.2.1); rw [show cs.toArray.toList = cs from rfl, ← HQ.out.2.2.2.2.1]))
            rw [HB.out.2]
            refine bodyPost_ret (v := .tuple #[.agg (icells (cntL l)).toArray, .int .i64 0]) (results_ct Try.results13 rfl rfl (HQ.out.2.2.2.2.2.1.loadV Try.underlying27 rfl infoC)) rfl ⟨rfl, HQ.out.2.2.2.2.2.2⟩
  · rw [if_pos rfl]
    have hout : ofO l = (List.replicate 17 0, 5) := by unfold ofO; rw [hbad]; rfl
    obtain ⟨W5, hW5⟩ : ∃ W5, W5 = w1.setCells w.heap.size 0 (Array.toList (#[.int .i64 0, .int .i64 0, .int .i64 0, .int .i64 0, .int .i64 0, .int .i64 0, .int .i64 0, .int .i64 0, .int .i64 0, .int .i64 0, .int .i64 0, .int .i64 0, .int .i64 0, .int .i64 0, .int .i64 0, .int .i64 0, .int .i64 0] : Array Value)) := ⟨_, rfl⟩
    have hst := (HV.out.2.2.1.store (P := Try.prog) (b := List.replicate 17 0) (by simp) infoC).2
    have hst5 : Arr 27 17 W5 w.heap.size (List.replicate 17 0) := by rw [hW5]; exact hst
    have hb5 : Below w.heap.size w W5 := by rw [hW5]; exact below_setCells HV.out.2.1 (Nat.le_refl _) _ _ HV.out.2.1.size
    have HQ : Hid (_ ∧ _ ∧ _ ∧ _ ∧ _) := ⟨HV.out.2.2.1.there, hb5, hst5, hW5, hout⟩
    clear hbad hout hst hst5 hb5 hW5
    go_wp2_with ((with_reducible refine wpList_store_mid rfl 27 (.tmp 2) (.tmp 12) rfl w.heap.size 0 #[.int .i64 0, .int .i64 0, .int .i64 0, .int .i64 0, .int .i64 0, .int .i64 0, .int .i64 0, .int .i64 0, .int .i64 0, .int .i64 0, .int .i64 0, .int .i64 0, .int .i64 0, .int .i64 0, .int .i64 0, .int .i64 0, .int .i64 0] ?hx ?hy ?ht ?hi ?h1 ?_); (case hx => rfl); (case hy => rfl); (case ht => exact HQ.out.1); (case hi => exact infoC); (case h1 => exact HO.out); rw [← HQ.out.2.2.2.1])
    rw [HQ.out.2.2.2.2]
    refine bodyPost_ret (v := .tuple #[.agg (icells (List.replicate 17 0)).toArray, .int .i64 5]) (results_ct Try.results13 rfl rfl (HQ.out.2.2.1.loadV Try.underlying27 rfl infoC)) rfl ⟨rfl, HQ.out.2.1⟩

set_option maxHeartbeats 4000000 in
theorem liveFlows_any (v : Value) (l : List Ou) (w : World) (hv : OsAt w v l) :
    Calls Try.prog 16 #[v] w fun r w' => r = .returned (.tuple #[.int .i64 (liveO l).1, .int .i64 (liveO l).2]) ∧ w' = w := by
  obtain ⟨p, c, rfl, hc, hm⟩ := RvAt.form hv
  unfold maxLen at hm
  have hs := anyBad_small (l := l) (by omega)
  have g1 := cntAt_le l 1
  have g6 := cntAt_le l 6
  have g7 := cntAt_le l 7
  have C1 := countKind_any _ l 1 (-1) w hv
  have C6 := countKind_any _ l 6 (-1) w hv
  have C7 := countKind_any _ l 7 (-1) w hv
  rw [show ckN l 1 (-1) = cntAt l 1 from ckN_kind l 1 (by omega)] at C1
  rw [show ckN l 6 (-1) = cntAt l 6 from ckN_kind l 6 (by omega)] at C6
  rw [show ckN l 7 (-1) = cntAt l 7 from ckN_kind l 7 (by omega)] at C7
  have hlive : liveO l = if anyBad l then (0, 5) else if liveN l < 0 then (0, 6) else (liveN l, 0) := rfl
  rw [hlive]
  unfold liveN at hs ⊢
  generalize cntAt l 1 = a1 at *
  generalize cntAt l 6 = a6 at *
  generalize cntAt l 7 = a7 at *
  have HV : Hid (_ ∧ _ ∧ _ ∧ _) := ⟨tallyFault_any _ l w hv, C1, C6, C7⟩
  clear hv C1 C6 C7 hlive
  have b1 : a1 ≤ 9223372036854775807 := by omega
  have b6 : a6 ≤ 9223372036854775807 := by omega
  have b7 : a7 ≤ 9223372036854775807 := by omega
  have b67 : a6 + a7 ≤ 9223372036854775807 := by omega
  clear g1 g6 g7 hs
  cases hbad : anyBad l
  · rw [if_neg Bool.false_ne_true]
    have HF : Hid _ := HV.out.1
    rw [hbad, if_neg Bool.false_ne_true] at HF
    clear hbad
    by_cases hneg : (a1 : Int) - a6 - a7 < 0
    · rw [if_pos hneg]
      go_enter Try.func16, Try.ntmps16
      go_wp2_with fail
      refine Calls.mono HF.out ?_
      rintro r w1 ⟨rfl, rfl⟩
      go_wp2_with fail
      refine Calls.mono HV.out.2.1 ?_
      rintro r w1 ⟨rfl, rfl⟩
      go_wp2_with fail
      refine Calls.mono HV.out.2.2.1 ?_
      rintro r w1 ⟨rfl, rfl⟩
      go_wp2_with fail
      refine Calls.mono HV.out.2.2.2 ?_
      rintro r w1 ⟨rfl, rfl⟩
      go_wp2
      go_ret2
      exact ⟨rfl, rfl⟩
    · rw [if_neg hneg]
      go_enter Try.func16, Try.ntmps16
      go_wp2_with fail
      refine Calls.mono HF.out ?_
      rintro r w1 ⟨rfl, rfl⟩
      go_wp2_with fail
      refine Calls.mono HV.out.2.1 ?_
      rintro r w1 ⟨rfl, rfl⟩
      go_wp2_with fail
      refine Calls.mono HV.out.2.2.1 ?_
      rintro r w1 ⟨rfl, rfl⟩
      go_wp2_with fail
      refine Calls.mono HV.out.2.2.2 ?_
      rintro r w1 ⟨rfl, rfl⟩
      go_wp2
      go_ret2
      exact ⟨rfl, rfl⟩
  · rw [if_pos rfl]
    have HF : Hid _ := HV.out.1
    rw [hbad, if_pos rfl] at HF
    clear hbad
    go_enter Try.func16, Try.ntmps16
    go_wp2_with fail
    refine Calls.mono HF.out ?_
    rintro r w1 ⟨rfl, rfl⟩
    go_wp2
    go_ret2
    exact ⟨rfl, rfl⟩
end Go.Proofs.Ythfadekfobceaaa.Walks
