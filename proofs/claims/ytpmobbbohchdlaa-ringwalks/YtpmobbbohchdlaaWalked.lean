/-
  The document's walk behind a key. Condition: the ring's spots can be read.
-/
import Derived.Test.YtpmobbbohchdlaaWalkP
import Derived.Test.YtpmobbbohchdlaaLAdds
import Derived.WalkKit
import Derived.ProofKit
import Derived.Handy
import Derived.LoopTactic
import Derived.Below
import Derived.Laws.BitsAllLaws
import Derived.RegionTactic
import Derived.Deep.RegionHeld3
import Derived.Deep.DrawnRows
import Derived.Deep.AppendLies
import Derived.Laws.OwnMore
import Derived.Deep.Onto
import Derived.Deep.QuietTactic
import Derived.BigQuiet
namespace Go.Proofs.Ytpmobbbohchdlaa.Walks
open Go.RowKit
set_option linter.unusedVariables false
set_option linter.unusedSimpArgs false
attribute [local go_sem ↓] Go.wp_at_zero Go.wp_at_succ

/-- What Walk leaves. -/
def WalkRes (l : List Tm) (key : Int) (w : World) (r : Ending) (w' : World) : Prop := ∃ (y : Value) (e : Int), r = .returned (.tuple #[y, .int .i64 e]) ∧ Below w.heap.size w w' ∧
  ((¬ RingOk l ∧ e = 6 ∧ y = .slice none 0 0) ∨ (RingOk l ∧ ¬ (0 ≤ key ∧ key ≤ 4294967295) ∧ e = 2 ∧ y = .slice none 0 0) ∨
    (RingOk l ∧ (0 ≤ key ∧ key ≤ 4294967295) ∧ e = 0 ∧ w'.ownsRow w.heap.size 3 1 y (walkAt l (keyMix key.toNat : Nat)).length (icells (walkAt l (keyMix key.toNat : Nat)))))

/-- What Walk answers. -/
def walkOut (l : List Tm) (key : Int) [Decidable (RingOk l)] : Int × List Int :=
  if ¬ RingOk l then (6, []) else if ¬ (0 ≤ key ∧ key ≤ 4294967295) then (2, []) else (0, walkAt l (keyMix key.toNat : Nat))

theorem intsAt_nil (w : World) : IntsAt w (.slice none 0 0) [] := rowAt_nil w

theorem IntsAt.form {w : World} {v : Value} {l : List Int} (h : IntsAt w v l) : ∃ p c, v = .slice p l.length c := by
  obtain ⟨p, c, e, _⟩ := h.parts
  exact ⟨p, c, e⟩

open Classical in
theorem WalkRes.out {l : List Tm} {n : Int} {w : World} {r : Ending} {w' : World} (h : WalkRes l n w r w') :
    ∃ y, r = .returned (.tuple #[y, .int .i64 (walkOut l n).1]) ∧ IntsAt w' y (walkOut l n).2 ∧ Below w.heap.size w w' := by
  obtain ⟨y, e, rfl, hb, h⟩ := h
  refine ⟨y, ?_, ?_, hb⟩
  · rcases h with ⟨h1, rfl, _⟩ | ⟨h1, h2, rfl, _⟩ | ⟨h1, h2, rfl, _⟩
    · simp [walkOut, h1]
    · simp only [walkOut, h1, not_true_eq_false, if_false, if_pos h2]
    · simp only [walkOut, h1, not_true_eq_false, if_false, if_neg (not_not_intro h2)]
  · rcases h with ⟨h1, _, rfl⟩ | ⟨h1, h2, _, rfl⟩ | ⟨h1, h2, _, ho⟩
    · simp only [walkOut, h1, not_false_eq_true, if_true]; exact intsAt_nil _
    · simp only [walkOut, h1, not_true_eq_false, if_false, if_pos h2]; exact intsAt_nil _
    · simp only [walkOut, h1, not_true_eq_false, if_false, if_neg (not_not_intro h2)]; exact rowAt_own ho

/-- Truth values in a block. -/
def BArr (w : World) (g : Nat) (s : List Bool) : Prop := w.heap[g]? = some (.cells (s.map Value.bool).toArray 4 (0, 0)) ∧ s.length = 12

theorem BArr.lt {w : World} {g : Nat} {s : List Bool} (h : BArr w g s) : g < w.heap.size := (Array.getElem?_eq_some_iff.1 h.1).1

theorem BArr.keep {w w' : World} {g : Nat} {s : List Bool} (h : BArr w g s) (hk : w'.heap[g]? = w.heap[g]?) : BArr w' g s := ⟨hk.trans h.1, h.2⟩

theorem BArr.below {w w' : World} {g : Nat} {s : List Bool} (h : BArr w g s) (hb : Below w.heap.size w w') : BArr w' g s := h.keep (hb.block g h.lt)

theorem BArr.cell {w : World} {g : Nat} {s : List Bool} (h : BArr w g s) (i : Nat) (hi : i < s.length) : w.cell? ⟨g, i, none⟩ = some (.bool s[i]) := by
  simp [World.cell?, h.1, hi]

theorem BArr.frozen {w : World} {g : Nat} {s : List Bool} (h : BArr w g s) (i : Nat) : w.frozen? ⟨g, i, none⟩ = false := by simp [World.frozen?, h.1]

theorem BArr.set {w : World} {g : Nat} {s : List Bool} (h : BArr w g s) (i : Nat) (x : Bool) : BArr (w.setCell ⟨g, i, none⟩ (.bool x)) g (s.set i x) := by
  refine ⟨?_, by rw [List.length_set]; exact h.2⟩
  rw [Sort.setCell_eq]
  unfold Sort.mapBlock
  simp [Array.getElem?_modify, h.1, Sort.onCells]

/-- Who has come. -/
def seenL (out : List Int) : List Bool := (List.range 12).map fun (b : Nat) => decide ((b : Int) ∈ out)

theorem seenL_len (out : List Int) : (seenL out).length = 12 := by simp [seenL]

theorem seenL_at (out : List Int) (b : Nat) (hb : b < 12) : (seenL out)[b]'(by rw [seenL_len]; exact hb) = decide ((b : Int) ∈ out) := by simp [seenL]

theorem seenL_snoc (out : List Int) (b : Nat) (hb : b < 12) : seenL (out ++ [(b : Int)]) = (seenL out).set b true := by
  apply List.ext_getElem?
  intro j
  by_cases hj : j < 12
  · by_cases h : j = b
    · subst h
      rw [List.getElem?_set_self (by rw [seenL_len]; exact hj)]
      simp [seenL, hj]
    · rw [List.getElem?_set_ne (Ne.symm h)]
      have hne : ¬ ((j : Int) = (b : Int)) := by omega
      simp [seenL, hj, hne]
  · rw [List.getElem?_eq_none (by rw [seenL_len]; omega), List.getElem?_eq_none (by rw [List.length_set, seenL_len]; omega)]

theorem infoBool : (Try.prog.info? 4).map (fun i => (i.zero, i.size, i.bytes)) = some (some (.bool false), 1, 1) := by kernel_rfl

theorem made12b (W : World) : (Instr.makeSlice 64 (.int .i64 12) (.int .i64 12)).run Try.prog W = .ok (.slice (some ⟨W.heap.size, 0, none⟩) 12 12) (W.alloc (.cells ((List.replicate 12 false).map Value.bool).toArray 4)) := by
  obtain ⟨i1, hj, hy0, hy1, hy2⟩ := info_parts infoBool
  have h := run_makeSlice (P := Try.prog) W 64 4 i1 _ Try.underlying64 hj hy0 .i64 .i64 12 12 (by decide) (by decide) (by rw [hy1]; decide) (by rw [hy2]; decide) (by decide)
  have e : madeCells (Value.bool false).cells (Int.toNat 12 * 1) = ((List.replicate 12 false).map Value.bool).toArray := Array.toList_inj.1 (toList_madeCells_one (.bool false) 12)
  rw [h, hy1, e]
  rfl

/-- What has been met when i spots of the turn k are over. -/
def metAt (l : List Tm) (at_ : Int) (k i : Nat) : List Tm := if k = 0 then (l.take i).filter (fun t => decide (at_ ≤ t.1)) else l.filter (fun t => decide (at_ ≤ t.1)) ++ (l.take i).filter (fun t => decide (t.1 < at_))

def metTo (l : List Tm) (at_ : Int) (k : Nat) : List Tm := if k = 0 then [] else if k = 1 then l.filter (fun t => decide (at_ ≤ t.1)) else turnAt l at_

theorem metAt_zero (l : List Tm) (at_ : Int) (k : Nat) (hk : k < 2) : metAt l at_ k 0 = metTo l at_ k := by
  rcases (show k = 0 ∨ k = 1 by omega) with rfl | rfl <;> simp [metAt, metTo]

theorem metAt_all (l : List Tm) (at_ : Int) (k : Nat) (hk : k < 2) : metAt l at_ k l.length = metTo l at_ (k + 1) := by
  rcases (show k = 0 ∨ k = 1 by omega) with rfl | rfl <;> simp [metAt, metTo, turnAt]

theorem metAt_yes (l : List Tm) (at_ : Int) (k i : Nat) (hi : i < l.length) (h : decide (at_ ≤ l[i].1) = ((k : Int) == 0)) : metAt l at_ k (i + 1) = metAt l at_ k i ++ [l[i]] := by
  unfold metAt
  rw [List.take_succ_eq_append_getElem hi, List.filter_append, List.filter_append]
  by_cases hk : k = 0
  · subst hk
    have h2 : at_ ≤ l[i].1 := by simpa using h
    have e : [l[i]].filter (fun t => decide (at_ ≤ t.1)) = [l[i]] := List.filter_eq_self.2 fun t ht => by rw [List.mem_singleton.1 ht]; exact decide_eq_true h2
    rw [if_pos rfl, if_pos rfl, e]
  · have h2 : ¬ at_ ≤ l[i].1 := by
      have e : ((k : Int) == 0) = false := by rw [beq_eq_false_iff_ne]; omega
      rw [e] at h
      exact of_decide_eq_false h
    have h3 : l[i].1 < at_ := by omega
    have e : [l[i]].filter (fun t => decide (t.1 < at_)) = [l[i]] := List.filter_eq_self.2 fun t ht => by rw [List.mem_singleton.1 ht]; exact decide_eq_true h3
    rw [if_neg hk, if_neg hk, e, List.append_assoc]

theorem metAt_no (l : List Tm) (at_ : Int) (k i : Nat) (hi : i < l.length) (h : decide (at_ ≤ l[i].1) ≠ ((k : Int) == 0)) : metAt l at_ k (i + 1) = metAt l at_ k i := by
  unfold metAt
  rw [List.take_succ_eq_append_getElem hi, List.filter_append, List.filter_append]
  by_cases hk : k = 0
  · subst hk
    have h2 : ¬ at_ ≤ l[i].1 := by simpa using h
    have e : [l[i]].filter (fun t => decide (at_ ≤ t.1)) = [] := List.filter_eq_nil_iff.2 fun t ht => by rw [List.mem_singleton.1 ht, decide_eq_false h2]; exact Bool.false_ne_true
    rw [if_pos rfl, if_pos rfl, e, List.append_nil]
  · have h2 : at_ ≤ l[i].1 := by
      have e : ((k : Int) == 0) = false := by rw [beq_eq_false_iff_ne]; omega
      rw [e] at h
      exact of_decide_eq_true (by simpa using h)
    have h3 : ¬ l[i].1 < at_ := by omega
    have e : [l[i]].filter (fun t => decide (t.1 < at_)) = [] := List.filter_eq_nil_iff.2 fun t ht => by rw [List.mem_singleton.1 ht, decide_eq_false h3]; exact Bool.false_ne_true
    rw [if_neg hk, if_neg hk, e, List.append_nil]

theorem firsts_len (m : List Tm) : (firsts m).length ≤ m.length := by
  have h : ∀ (m : List Tm) (x : List Int), (m.foldl stepF x).length ≤ x.length + m.length := by
    intro m
    induction m with
    | nil => intro x; simp
    | cons t m ih =>
      intro x
      have h1 := stepF_len x t
      have := ih (stepF x t)
      simp only [List.foldl_cons, List.length_cons]
      omega
  simpa [firsts] using h m []

theorem metAt_len (l : List Tm) (at_ : Int) (k i : Nat) : (metAt l at_ k i).length ≤ l.length + l.length := by
  unfold metAt
  have h1 := List.length_filter_le (fun t : Tm => decide (at_ ≤ t.1)) l
  have h2 := List.length_filter_le (fun t : Tm => decide (at_ ≤ t.1)) (l.take i)
  have h3 := List.length_filter_le (fun t : Tm => decide (t.1 < at_)) (l.take i)
  rw [List.length_take] at h2 h3
  split
  · omega
  · rw [List.length_append]; omega

theorem icells_append (a b : List Int) : icells (a ++ b) = icells a ++ icells b := by simp [icells]

theorem news2 (wr : World) (p : Addr) (v : Value) (o : Obj) (x : Value) (T : TypeId) : Hid (∀ j u, ([x] : List Value)[j]? = some u → (((wr.setCell p v).alloc o).alloc (.cells #[x] T)).cell? ((⟨wr.heap.size + 1, 0, none⟩ : Addr).add j) = some u) := by
  have h := news_at ((wr.setCell p v).alloc o) [x] T
  have e : ((wr.setCell p v).alloc o).heap.size = wr.heap.size + 1 := by simp
  rw [e] at h
  exact h

/-- What the walk holds between two spots. -/
def Meets (w : World) (B g : Nat) (v : Value) (x : Value) (out : List Int) (wr : World) : Prop :=
  wr.ownsRow B 3 1 x out.length (icells out) ∧ BArr wr g (seenL out) ∧ wr.heap[w.heap.size]? = some (.cells #[v] 24 (0, 0)) ∧ Below w.heap.size w wr ∧ B ≤ wr.heap.size

theorem Meets.alloc {w : World} {B g : Nat} {v : Value} {x : Value} {out : List Int} {wr : World} (h : Meets w B g v x out wr) (o : Obj) : Meets w B g v x out (wr.alloc o) :=
  ⟨h.1.alloc o, h.2.1.below (below_new _ _), box_below h.2.2.1 (below_new _ _), h.2.2.2.1.alloc h.2.2.2.1.size o, by have := h.2.2.2.2; simp; omega⟩

/-- A backend is marked. -/
theorem Meets.mark {w : World} {B g : Nat} {v : Value} {x : Value} {out : List Int} {wr : World} (h : Meets w B g v x out wr) (b : Nat) (hb : b < 12) (hg : w.heap.size < g) (hB : g < B) :
    (wr.setCell ⟨g, b, none⟩ (.bool true)).ownsRow B 3 1 x out.length (icells out) ∧ BArr (wr.setCell ⟨g, b, none⟩ (.bool true)) g (seenL (out ++ [(b : Int)])) ∧ (wr.setCell ⟨g, b, none⟩ (.bool true)).heap[w.heap.size]? = some (.cells #[v] 24 (0, 0)) ∧ Below w.heap.size w (wr.setCell ⟨g, b, none⟩ (.bool true)) ∧ B ≤ (wr.setCell ⟨g, b, none⟩ (.bool true)).heap.size := by
  have hk : ∀ i, i ≠ g → (wr.setCell ⟨g, b, none⟩ (.bool true)).heap[i]? = wr.heap[i]? := fun i hi => Below.heap_setCell _ _ _ _ (by simpa using hi)
  exact ⟨own_block h.1 (fun i hi => hk i (by have := (h.1.lt i hi).1; omega)), by rw [seenL_snoc out b hb]; exact h.2.1.set b true, (hk _ (by omega)).trans h.2.2.1, h.2.2.2.1.setCell (by simp; omega) _, by have := h.2.2.2.2; simpa using this⟩

set_option maxHeartbeats 8000000 in
set_option maxRecDepth 100000 in
theorem walked_any (v : Value) (l : List Tm) (n : Int) (w : World) (hv : TmAt w v l) :
    Calls Try.prog 18 #[.agg #[v], .int .i64 n] w (WalkRes l n w) := by
  obtain ⟨p, c, rfl, hc, hm, pv⟩ := hv.parts
  unfold maxLen at hm
  have HV : Hid (_ ∧ _) := ⟨hv, pv⟩
  clear hv pv
  obtain ⟨i0, hi, hz0, hz1, hz2⟩ := info_parts infoInt
  obtain ⟨z12, hz12⟩ : ∃ z, z = ((List.replicate 12 false).map Value.bool).toArray := ⟨_, rfl⟩
  have hmk : ∀ W, (Instr.makeSlice 64 (.int .i64 12) (.int .i64 12)).run Try.prog W = .ok (.slice (some ⟨W.heap.size, 0, none⟩) 12 12) (W.alloc (.cells z12 4)) := by rw [hz12]; exact made12b
  have HZ12 : Hid _ := hz12
  clear hz12
  go_enter Try.func18, Try.ntmps18
  go_wp2_with fail
  obtain ⟨W0, hW0⟩ : ∃ W0, W0 = w.alloc (.cells #[.slice p l.length c] 24) := ⟨_, rfl⟩
  rw [← hW0]
  have hb0 : Below w.heap.size w W0 := by rw [hW0]; exact below_new _ _
  have hR0 : BoxR W0 w.heap.size (.slice p l.length c) l := by rw [hW0]; exact BoxR.new HV.out.1
  refine (ringWeights_any _ l _ hR0.2).mono ?_
  rintro r w1 ⟨u, rfl, hb1, hu⟩
  have hbb := hb0.trans (hb1.mono hb0.size)
  have HZ : Hid (_ ∧ _) := ⟨hbb, hR0.below hb1⟩
  clear hb0 hb1 hbb hR0 hW0
  rcases hu with ⟨hno, rfl⟩ | ⟨hok, g, rfl, hg, hA⟩
  · have HN : Hid _ := hno
    clear hno
    go_wp2
    go_ret2
    exact ⟨_, _, rfl, HZ.out.1, .inl ⟨HN.out, rfl, rfl⟩⟩
  · have HN : Hid _ := hok
    have hl384 := ringOk_len hok
    clear hok hA
    by_cases hn : 0 ≤ n ∧ n ≤ 4294967295
    · obtain ⟨key, rfl⟩ := Int.eq_ofNat_of_zero_le hn.1
      have hkey : key ≤ 4294967295 := by omega
      have hK := fun W => keyAt_any key W hkey
      obtain ⟨at_, hat⟩ : ∃ at_ : Int, at_ = (keyMix key : Nat) := ⟨_, rfl⟩
      rw [← hat] at hK
      have HK : Hid (_ ∧ _) := ⟨hK, hat⟩
      clear hK hat hn
      go_wp2_with fail
      refine (HK.out.1 _).mono ?_
      rintro r w2 ⟨rfl, hb2⟩
      have hbw2 := HZ.out.1.trans (hb2.mono HZ.out.1.size)
      have hR2 := HZ.out.2.below hb2
      have HY : Hid (_ ∧ _) := ⟨hbw2, hR2⟩
      clear hbw2 hR2 hb2 HZ
      go_wp2
      obtain ⟨W3, hW3⟩ : ∃ W3, W3 = w2.alloc (.cells z12 4) := ⟨_, rfl⟩
      have hb3 : Below w2.heap.size w2 W3 := by rw [hW3]; exact below_new _ _
      have hB3 : BArr W3 w2.heap.size (seenL []) := by rw [hW3, HZ12.out]; exact ⟨heap_alloc_new _ _, seenL_len _⟩
      rw [← hW3]
      have hs3 : W3.heap.size = w2.heap.size + 1 := by rw [hW3]; simp
      have hsw := HY.out.2.lt
      have hs4 : w2.heap.size < W3.heap.size := by omega
      have HX : Hid (_ ∧ _ ∧ _ ∧ _ ∧ _) := ⟨HY.out.1.trans (hb3.mono HY.out.1.size), HY.out.2.below hb3, hB3, hs4, hsw⟩
      clear hb3 hB3 hW3 hmk HY hs3 hs4 hsw
      go_loopw [10, 11] (fun x t wr => ∃ k : Nat, t = .int .i64 k ∧ k ≤ 2 ∧ Meets w W3.heap.size w2.heap.size (.slice p l.length c) x (firsts (metTo l at_ k)) wr) (fun _ t _ => 2 - (intOf t).toNat)
      case atStart => exact ⟨0, rfl, Nat.zero_le _, World.ownsRow_nil _ _ _ _, HX.out.2.2.1, HX.out.2.1.1, HX.out.1, Nat.le_refl _⟩
      case round =>
        obtain ⟨k, rfl, hk, hM⟩ := hrel
        by_cases hlt : k < 2
        · have hkd : decide ((k : Int) < 2) = true := decide_eq_true (by omega)
          have HI : Hid (_ ∧ True) := ⟨hM, trivial⟩
          clear hM
          go_wp2
          go_loopw [10, 12] (fun x t wr => ∃ i : Nat, t = .int .i64 i ∧ i ≤ l.length ∧ Meets w W3.heap.size w2.heap.size (.slice p l.length c) x (firsts (metAt l at_ k i)) wr) (fun _ t _ => l.length - (intOf t).toNat)
          case atStart =>
            refine ⟨0, rfl, Nat.zero_le _, ?_⟩
            rw [metAt_zero l at_ k hlt]
            exact HI.out.1
          case round =>
            obtain ⟨i, rfl, hil, hM⟩ := hrel
            have hcR := one_cell hM.2.2.1
            by_cases hiL : i < l.length
            · obtain ⟨b0, off, rfl, hbl0, c1, c2⟩ := HV.out.2 i hiL
              have e1 := (hM.2.2.2.1.cell (p := ⟨b0, off + i * 2, none⟩) hbl0).trans c1
              have e2 := (hM.2.2.2.1.cell (p := ⟨b0, off + i * 2 + 1, none⟩) hbl0).trans c2
              have hin := ringOk_in HN.out l[i] (List.getElem_mem hiL)
              have hyes := metAt_yes l at_ k i hiL
              have hno := metAt_no l at_ k i hiL
              obtain ⟨ta, hta⟩ : ∃ ta, ta = l[i].1 := ⟨_, rfl⟩
              obtain ⟨td, htd⟩ : ∃ td, td = l[i].2 := ⟨_, rfl⟩
              have hx : l[i] = (ta, td) := by rw [hta, htd]
              rw [← hta] at e1
              rw [← htd] at e2 hin
              rw [hx] at hyes hno
              obtain ⟨b, rfl⟩ := Int.eq_ofNat_of_zero_le hin.1
              have hb12 : b < 12 := by omega
              have hbI : (b : Int) < 12 := by omega
              have hlen := Nat.le_trans (firsts_len (metAt l at_ k i)) (metAt_len l at_ k i)
              obtain ⟨m, hmm⟩ : ∃ m, m = metAt l at_ k i := ⟨_, rfl⟩
              rw [← hmm] at hM hyes hno hlen
              have hcb := hM.2.1.cell b (by rw [seenL_len]; exact hb12)
              rw [seenL_at _ b hb12] at hcb
              have hfb := hM.2.1.frozen b
              have hltb := hM.2.1.lt
              have hiI : (i : Int) < (l.length : Int) := by omega
              have hMa := hM.alloc (.cells #[.int .i64 ta, .int .i64 (b : Int)] 55)
              have hfy := firsts_snoc m (ta, (b : Int))
              unfold stepF at hfy
              obtain ⟨out, hout⟩ : ∃ out, out = firsts m := ⟨_, rfl⟩
              rw [← hout] at hfy hlen hcb hMa
              rw [← hout] at hM
              have hmk := hM.mark b hb12 HX.out.2.2.2.2 HX.out.2.2.2.1
              have HJ : Hid (_ ∧ _ ∧ _ ∧ _ ∧ _ ∧ _) := ⟨hMa, hyes, hno, hfy, hout, hmk⟩
              clear hM hMa hyes hno hmm hta htd hx c1 c2 hin hfy hout hmk
              have hskip : decide (at_ ≤ ta) ≠ ((k : Int) == 0) → Hid (out = firsts (metAt l at_ k (i + 1))) := fun h => by
                have : out = firsts (metAt l at_ k (i + 1)) := by rw [HJ.out.2.2.1 h, ← HJ.out.2.2.2.2.1]
                exact this
              have htake : decide (at_ ≤ ta) = ((k : Int) == 0) → Hid (firsts (metAt l at_ k (i + 1)) = if (b : Int) ∈ out then out else out ++ [(b : Int)]) := fun h => by
                have : firsts (metAt l at_ k (i + 1)) = if (b : Int) ∈ out then out else out ++ [(b : Int)] := by rw [HJ.out.2.1 h, HJ.out.2.2.2.1]
                exact this
              cases hge : decide (at_ ≤ ta) <;> cases hk0 : ((k : Int) == 0)
              · have HS := htake (by rw [hge, hk0])
                clear hskip htake
                by_cases hm : (b : Int) ∈ out
                · rw [decide_eq_true hm] at hcb
                  rw [if_pos hm] at HS
                  have HM : Hid _ := hm
                  clear hm
                  go_wp2
                  go_roundw
                  case rel => exact ⟨i + 1, by simp, hiL, by rw [HS.out]; exact HJ.out.1⟩
                  case measure => simp [intOf]; omega
                · rw [decide_eq_false hm] at hcb
                  rw [if_neg hm] at HS
                  have HM : Hid _ := hm
                  clear hm
                  have HO : Hid (_ ∧ True) := ⟨HJ.out.2.2.2.2.2, trivial⟩
                  have HNW := news2 wr ⟨w2.heap.size, b, none⟩ (.bool true) (.cells #[.int .i64 ta, .int .i64 (b : Int)] 55) (.int .i64 (b : Int)) 3
                  go_wp2_with (first | (at_builtin; refine wpList_append_lies _ rfl _ _ 35 rfl W3.heap.size 3 i0 _ 1 8 Try.underlying35 hi hz0 hz1 hz2 rfl (by decide) u10 _ _ rfl ((HO.out.1.1.alloc _).alloc _) ⟨wr.heap.size + 1, 0, none⟩ 1 1 [.int .i64 (b : Int)] rfl rfl HNW.out (by intro u hu; rw [List.mem_singleton.1 hu]; rfl) (by decide) (by unfold maxLen; omega) (by omega) (by have := HO.out.1.2.2.2.2; simp at this ⊢; omega) _ rfl ?_; intro g' cap w5 hown5 hg5 hlies hlt5))
                  go_wp2
                  go_roundw
                  case rel =>
                    refine ⟨i + 1, by simp, hiL, ?_⟩
                    rw [HS.out]
                    have hbA := ((HO.out.1.2.2.2.1.alloc HO.out.1.2.2.2.1.size (.cells #[.int .i64 ta, .int .i64 (b : Int)] 55)).alloc (by have := HO.out.1.2.2.2.1.size; simp at this ⊢; omega) (.cells #[.int .i64 (b : Int)] 3))
                    have hbx := below_new (wr.setCell ⟨w2.heap.size, b, none⟩ (.bool true)) (.cells #[.int .i64 ta, .int .i64 (b : Int)] 55)
                    have hby := below_new ((wr.setCell ⟨w2.heap.size, b, none⟩ (.bool true)).alloc (.cells #[.int .i64 ta, .int .i64 (b : Int)] 55)) (.cells #[.int .i64 (b : Int)] 3)
                    have hown0 := (HO.out.1.1.alloc (.cells #[.int .i64 ta, .int .i64 (b : Int)] 55)).alloc (.cells #[.int .i64 (b : Int)] 3)
                    have hB0 := HX.out.2.2.2.1
                    have hB1 := HX.out.2.2.2.2
                    refine ⟨?_, ?_, ?_, ?_, ?_⟩
                    · rw [icells_append, List.length_append]
                      exact hown5
                    · have h6 := (HO.out.1.2.1.below hbx).below hby
                      exact h6.keep (hg5.block _ h6.lt (fun e => by have := (hown0.lt _ e.symm).1; omega))
                    · have h6 := box_below (box_below HO.out.1.2.2.1 hbx) hby
                      exact (hg5.block _ (Array.getElem?_eq_some_iff.1 h6).1 (fun e => by have := (hown0.lt _ e.symm).1; omega)).trans h6
                    · exact hbA.grown hg5 hbA.size (fun j e => by have := (hown0.lt j e).1; omega)
                    · have h7 := hg5.size
                      have h8 := HO.out.1.2.2.2.2
                      simp at h7 h8
                      omega
                  case measure => simp [intOf]; omega
              · have HS := hskip (by rw [hge, hk0]; decide)
                clear hskip htake
                go_wp2
                go_roundw
                case rel => exact ⟨i + 1, by simp, hiL, by rw [← HS.out]; exact HJ.out.1⟩
                case measure => simp [intOf]; omega
              · have HS := hskip (by rw [hge, hk0]; decide)
                clear hskip htake
                go_wp2
                go_roundw
                case rel => exact ⟨i + 1, by simp, hiL, by rw [← HS.out]; exact HJ.out.1⟩
                case measure => simp [intOf]; omega
              · have HS := htake (by rw [hge, hk0])
                clear hskip htake
                by_cases hm : (b : Int) ∈ out
                · rw [decide_eq_true hm] at hcb
                  rw [if_pos hm] at HS
                  have HM : Hid _ := hm
                  clear hm
                  go_wp2
                  go_roundw
                  case rel => exact ⟨i + 1, by simp, hiL, by rw [HS.out]; exact HJ.out.1⟩
                  case measure => simp [intOf]; omega
                · rw [decide_eq_false hm] at hcb
                  rw [if_neg hm] at HS
                  have HM : Hid _ := hm
                  clear hm
                  have HO : Hid (_ ∧ True) := ⟨HJ.out.2.2.2.2.2, trivial⟩
                  have HNW := news2 wr ⟨w2.heap.size, b, none⟩ (.bool true) (.cells #[.int .i64 ta, .int .i64 (b : Int)] 55) (.int .i64 (b : Int)) 3
                  go_wp2_with (first | (at_builtin; refine wpList_append_lies _ rfl _ _ 35 rfl W3.heap.size 3 i0 _ 1 8 Try.underlying35 hi hz0 hz1 hz2 rfl (by decide) u10 _ _ rfl ((HO.out.1.1.alloc _).alloc _) ⟨wr.heap.size + 1, 0, none⟩ 1 1 [.int .i64 (b : Int)] rfl rfl HNW.out (by intro u hu; rw [List.mem_singleton.1 hu]; rfl) (by decide) (by unfold maxLen; omega) (by omega) (by have := HO.out.1.2.2.2.2; simp at this ⊢; omega) _ rfl ?_; intro g' cap w5 hown5 hg5 hlies hlt5))
                  go_wp2
                  go_roundw
                  case rel =>
                    refine ⟨i + 1, by simp, hiL, ?_⟩
                    rw [HS.out]
                    have hbA := ((HO.out.1.2.2.2.1.alloc HO.out.1.2.2.2.1.size (.cells #[.int .i64 ta, .int .i64 (b : Int)] 55)).alloc (by have := HO.out.1.2.2.2.1.size; simp at this ⊢; omega) (.cells #[.int .i64 (b : Int)] 3))
                    have hbx := below_new (wr.setCell ⟨w2.heap.size, b, none⟩ (.bool true)) (.cells #[.int .i64 ta, .int .i64 (b : Int)] 55)
                    have hby := below_new ((wr.setCell ⟨w2.heap.size, b, none⟩ (.bool true)).alloc (.cells #[.int .i64 ta, .int .i64 (b : Int)] 55)) (.cells #[.int .i64 (b : Int)] 3)
                    have hown0 := (HO.out.1.1.alloc (.cells #[.int .i64 ta, .int .i64 (b : Int)] 55)).alloc (.cells #[.int .i64 (b : Int)] 3)
                    have hB0 := HX.out.2.2.2.1
                    have hB1 := HX.out.2.2.2.2
                    refine ⟨?_, ?_, ?_, ?_, ?_⟩
                    · rw [icells_append, List.length_append]
                      exact hown5
                    · have h6 := (HO.out.1.2.1.below hbx).below hby
                      exact h6.keep (hg5.block _ h6.lt (fun e => by have := (hown0.lt _ e.symm).1; omega))
                    · have h6 := box_below (box_below HO.out.1.2.2.1 hbx) hby
                      exact (hg5.block _ (Array.getElem?_eq_some_iff.1 h6).1 (fun e => by have := (hown0.lt _ e.symm).1; omega)).trans h6
                    · exact hbA.grown hg5 hbA.size (fun j e => by have := (hown0.lt j e).1; omega)
                    · have h7 := hg5.size
                      have h8 := HO.out.1.2.2.2.2
                      simp at h7 h8
                      omega
                  case measure => simp [intOf]; omega
            · obtain rfl : i = l.length := by omega
              have HJ : Hid (_ ∧ True) := ⟨hM, trivial⟩
              clear hM
              go_wp2
              go_roundw
              case rel =>
                refine ⟨k + 1, by simp, by omega, ?_⟩
                rw [← metAt_all l at_ k hlt]
                exact HJ.out.1
              case measure => simp [intOf]; omega
        · obtain rfl : k = 2 := by omega
          have HI : Hid (_ ∧ True) := ⟨hM, trivial⟩
          clear hM
          go_wp2
          go_ret2
          refine ⟨_, _, rfl, HI.out.1.2.2.2.1, .inr (.inr ⟨HN.out, ⟨by omega, by omega⟩, rfl, ?_⟩)⟩
          rw [Int.toNat_natCast, ← HK.out.2]
          have h := HI.out.1.1.mono (base' := w.heap.size) (by have := HX.out.2.2.2; omega)
          exact h
    · have hbad : n < 0 ∨ 4294967295 < n := by omega
      go_wp2_with fail
      refine (keyAt_out n _ hbad).mono ?_
      rintro r w2 ⟨rfl, rfl⟩
      go_wp2
      go_ret2
      exact ⟨_, _, rfl, HZ.out.1, .inr (.inl ⟨HN.out, hn, rfl, rfl⟩)⟩
end Go.Proofs.Ytpmobbbohchdlaa.Walks
