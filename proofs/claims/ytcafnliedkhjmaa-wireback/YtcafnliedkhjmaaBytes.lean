/-
  The document's EventBytes, and the statements' own sameBytes: an event without fault gives its bytes, another its fault; equal bytes are the same. No condition but that what is compared can be read.
-/
import Derived.Test.YtcafnliedkhjmaaRows
import Derived.Test.YtcafnliedkhjmaaChecked
import Derived.Test.YtcafnliedkhjmaaEncode
import Derived.Deep.QuietTactic
import Derived.BigQuiet
import Derived.WalkKit
import Derived.ProofKit
import Derived.Handy
import Derived.LoopTactic
import Derived.Below
import Derived.Laws.BitsAllLaws
import Derived.RegionTactic
import Derived.Deep.RegionHeld3
import Derived.Deep.DrawnRows
import Derived.Deep.AppendLies
import Derived.Laws.OwnMore
import Derived.Laws.BytesArg
import Derived.Deep.Onto
namespace Go.Proofs.Ytcafnliedkhjmaa.Walks
open Go.RowKit
open Go.Proofs.Ytcafnliedkhjmaa.Plain
set_option linter.unusedVariables false
attribute [local go_sem ↓] Go.wp_at_zero Go.wp_at_succ


set_option maxHeartbeats 1000000 in
theorem bytes_bad (e : Ev) (w : World) (h : fault e ≠ 0) :
    Calls Try.prog 12 #[.agg #[.int .i64 e.kind, .int .i64 e.key, .int .i64 e.slot, .int .i64 e.gen, .bool e.good, .int .i64 e.req, .int .i64 e.be, .int .i64 e.wt]] w fun r w' => r = .returned (.tuple #[.slice none 0 0, .int .i64 (fault e)]) ∧ Below w.heap.size w w' := by
  obtain ⟨x, hx⟩ : ∃ x, x = fault e := ⟨_, rfl⟩
  rw [← hx] at h ⊢
  have hne : (x != 0) = true := by rw [bne_iff_ne]; exact h
  have HX : Hid (x = fault e) := hx
  clear h hx
  go_enter Try.func12, Try.ntmps12
  go_wp2_with fail
  refine (fault_any e _).mono ?_
  rintro r w1 ⟨rfl, hb1⟩
  rw [← HX.out]
  go_wp2
  go_ret2
  exact ⟨rfl, ((Below.refl _ _).alloc (Nat.le_refl _) _).trans (hb1.mono (by simp))⟩

set_option maxHeartbeats 1000000 in
theorem bytes_ok (e : Ev) (w : World) (h : fault e = 0) :
    Calls Try.prog 12 #[.agg #[.int .i64 e.kind, .int .i64 e.key, .int .i64 e.slot, .int .i64 e.gen, .bool e.good, .int .i64 e.req, .int .i64 e.be, .int .i64 e.wt]] w fun r w' => ∃ v, r = .returned (.tuple #[v, .int .i64 0]) ∧ w'.ownsRow w.heap.size 5 1 v (encEv e).length (bcells (encEv e)) ∧ Below w.heap.size w w' := by
  obtain ⟨i0, hi, hz0, hz1, hz2⟩ := info_parts Try.info5
  obtain ⟨fs, hf, hall, hcl⟩ := fault_ok h
  have hlen := flds_len hf
  have hkb := (flds_bounds hf).1
  have hwb := within_bounds hf hall
  have HH : Hid (_ ∧ _ ∧ _) := ⟨hf, hwb, h⟩
  clear hall hcl hwb
  go_enter Try.func12, Try.ntmps12
  go_wp2_with fail
  refine (fault_any e _).mono ?_
  rw [h]
  rintro r w1 ⟨rfl, hb1⟩
  have hE1 : EvAt w1 w.heap.size e := EvAt.below (heap_new w _) hb1 (by simp)
  obtain ⟨e0, e1, e2, e3, e4, e5, e6, e7⟩ := hE1.all
  clear h hf
  go_wp2_with fail
  refine (nums_some e fs _ HH.out.1).mono ?_
  rintro r w0 ⟨v, lo, hi', rfl, hb, hv, hlo, hhi⟩
  clear e0 e1 e2 e3 e4 e5 e6 e7
  have hE0 : EvAt w0 w.heap.size e := EvAt.below hE1 hb hE1.lt
  rw [nums_map, show fs.length = (e.nums fs).length by simp [Ev.nums]] at hv
  obtain ⟨a, cap, rfl, hat⟩ := ints_one hv
  rw [show (e.nums fs).length = fs.length by simp [Ev.nums]] at *
  have hw0 : Below w.heap.size w w0 := ((Below.refl _ _).alloc (Nat.le_refl _) _).trans ((below_tr hb1 hb).mono (by simp))
  have HO : Hid (_ ∧ _ ∧ _) := ⟨hat, hw0, hb⟩
  clear hv hat hlo hhi hb hb1 hw0
  have e0 := hE0.all.1
  have hEl := hE0.lt
  go_wp2
  go_loopw [9, 10] (fun x i wr => ∃ k : Nat, k ≤ fs.length ∧ i = .int .i64 k ∧ wr.ownsRow w0.heap.size 5 1 x (pre e fs k).length (bcells (pre e fs k)) ∧ Below w0.heap.size w0 wr) (fun _ i _ => fs.length - (intOf i).toNat)
  case atStart =>
    refine ⟨0, Nat.zero_le _, rfl, ?_, (Below.refl _ _).alloc (Nat.le_refl _) _⟩
    have := ownsRow_new (w := w0) (base := w0.heap.size) (n := 1) (e := 5) (size := 1) #[.int .u8 e.kind] (Nat.le_refl _) (by unfold maxLen; omega) rfl
    have e' : ((e.kind.toNat : Nat) : Int) = e.kind := by omega
    simpa [pre, bcells, e'] using this
  case round =>
    obtain ⟨k, hk, rfl, hown, hg⟩ := hrel
    have hpl := pre_len e fs k hk HH.out.2.1
    by_cases hlt : k < fs.length
    · have hfk : fs[k]? = some fs[k] := List.getElem?_eq_getElem hlt
      have hto : fs.take (k + 1) = fs.take k ++ [fs[k]] := List.take_succ_eq_append_getElem hlt
      have hnb := HH.out.2.1 fs[k] (List.getElem_mem hlt)
      generalize fs[k] = f at *
      obtain ⟨n, hn⟩ := Int.eq_ofNat_of_zero_le hnb.1
      obtain ⟨g, rfl, g1, g2, c0, _⟩ := HO.out.1 k (n : Int) (by simp [Ev.nums, hfk, hn])
      rw [← hg.cell (p := ⟨g, k, none⟩) g2] at c0
      have HT : Hid (pre e fs (k + 1) = pre e fs k ++ enc n) := by have h := pre_succ e fs k f hto; rw [hn, Int.toNat_natCast] at h; exact h
      have hn2 : n ≤ 4294967295 := by omega
      clear hfk hto hnb hn
      have hsz := hg.size
      go_wp2_with fail
      refine (number_any (n + 1) n _ (by omega) hn2).mono ?_
      rintro r w2 ⟨v1, rfl, hown1, hb2⟩
      obtain ⟨g', cap', rfl, hg1, hg2⟩ := hown1.form (enc_pos _)
      have hown2 := owns_below hown hb2
      have hbs : Below w0.heap.size w0 w2 := hg.trans (hb2.mono hsz)
      have hs2 := hbs.size
      have hle := enc_len5 n hn2
      have HB : Hid (_ ∧ _) := ⟨hbs, hb2⟩
      clear hb2 hbs
      go_wp2_with (at_builtin; refine wpList_append_own _ rfl _ _ 27 rfl w0.heap.size 5 i0 (.int .u8 0) 1 1 Try.underlying27 hi hz0 hz1 hz2 rfl (by decide) _ _ _ rfl hown2 ⟨g', 0, none⟩ _ cap' (bcells (enc n)) rfl (by simp [bcells]) (hown1.cells rfl) (bcells_one _) (by unfold maxLen; omega) (by omega) hs2 ?_)
      intro v' w3 hown' hgrow _
      go_wp2
      go_roundw
      case rel =>
        refine ⟨k + 1, by omega, by go_num, ?_, HB.out.1.grown hgrow hs2 (fun k' hk' => (hown2.lt k' hk').1)⟩
        rw [HT.out]
        simpa [bcells] using hown'
      case measure => simp [intOf]; omega
    · have : k = fs.length := by omega
      subst this
      rw [pre_all e fs HH.out.1] at hown
      go_wp2
      go_ret2
      have hs := HO.out.2.1.size
      exact ⟨_, rfl, hown.mono hs, HO.out.2.1.trans (hg.mono hs)⟩


/-- A slice of bytes that can be read: what it holds. -/
def BytesAt (w : World) (v : Value) (l : List Nat) : Prop :=
  ∃ a cap, v = .slice a l.length cap ∧ l.length ≤ cap ∧ (a = none ∧ l = [] ∨ l = [] ∨ ∃ b off, a = some ⟨b, off, none⟩ ∧ b < w.heap.size ∧ ∀ i, i < l.length → w.cell? ⟨b, off + i, none⟩ = some (.int .u8 ((l.getD i 0 : Nat) : Int)))

theorem bytesAt_owned {w : World} {base : Nat} {v : Value} {l : List Nat} (h : w.ownsRow base 5 1 v l.length (bcells l)) : BytesAt w v l := by
  obtain ⟨hl, ⟨rfl, hn⟩ | ⟨g, cap, cur, rfl, hb, hg, hn, hm, hs, ht⟩⟩ := h
  · have := List.length_eq_zero_iff.1 hn
    subst this
    exact ⟨none, 0, rfl, Nat.le_refl _, .inl ⟨rfl, rfl⟩⟩
  · refine ⟨_, cap, rfl, hn, .inr (.inr ⟨g, 0, rfl, ?_, fun i hi => ?_⟩)⟩
    · rcases Nat.lt_or_ge g w.heap.size with hlt | hge
      · exact hlt
      · rw [Array.getElem?_eq_none hge] at hg; cases hg
    · have h2 : (bcells l)[i]? = some (.int .u8 ((l.getD i 0 : Nat) : Int)) := by
        simp [bcells, List.getElem?_map, List.getElem?_eq_getElem hi, List.getD]
      rw [← ht, List.getElem?_take_of_lt (by omega)] at h2
      have h3 : cur[i]? = some (.int .u8 ((l.getD i 0 : Nat) : Int)) := by simpa using h2
      simp only [World.cell?, hg, Nat.zero_add]
      simpa using h3

theorem BytesAt.below {w w' : World} {v : Value} {l : List Nat} (h : BytesAt w v l) (hb : Below w.heap.size w w') : BytesAt w' v l := by
  obtain ⟨a, cap, hv, hc, h1 | h1 | ⟨b, off, h1, h2, h3⟩⟩ := h
  · exact ⟨a, cap, hv, hc, .inl h1⟩
  · exact ⟨a, cap, hv, hc, .inr (.inl h1)⟩
  · exact ⟨a, cap, hv, hc, .inr (.inr ⟨b, off, h1, Nat.lt_of_lt_of_le h2 hb.size, fun i hi => by rw [hb.cell (p := ⟨b, off + i, none⟩) h2]; exact h3 i hi⟩)⟩

def strOf (l : List Nat) : ByteArray := strOfNums (l.map fun (x : Nat) => (x : Int))

theorem conv_bytes {w : World} {v : Value} {l : List Nat} (h : BytesAt w v l) : (convert 27 9 v).run Try.prog w = .ok (.string (strOf l)) w := by
  have e0 : ∀ (a : Option Addr) (cap : Nat), (convert 27 9 (.slice a 0 cap)).run Try.prog w = .ok (.string (strOf [])) w := by
    intro a cap
    cases a with
    | none => exact run_convert_bytes_nil w 27 5 Try.underlying27 Try.underlying5 0 cap 9 Try.underlying9
    | some x =>
      rw [run_convert_bytes_string w 27 9 5 _ 0 cap Try.underlying27 Try.underlying5 Try.underlying9, run_bytesToString w x 0 cap [] (by simpa using run_loadCells_list (P := Try.prog) w x [] (by simp))]
      rfl
  obtain ⟨a, cap, rfl, hc, ⟨_, rfl⟩ | rfl | ⟨b, off, rfl, h2, h3⟩⟩ := h
  · exact e0 a cap
  · exact e0 a cap
  · exact run_convert_bytes_arg w 27 5 Try.underlying27 Try.underlying5 b off l.length cap (l.map fun (x : Nat) => (x : Int)) (by simp) (fun i hi => by rw [h3 i hi]; simp [List.getElem?_eq_getElem hi]) 9 Try.underlying9

set_option maxHeartbeats 400000 in
theorem same_yes (v u : Value) (l : List Nat) (w : World) (h1 : BytesAt w v l) (h2 : BytesAt w u l) :
    Calls Try.prog 13 #[v, u] w fun r w' => r = .returned (.bool true) ∧ w' = w := by
  have c1 := conv_bytes h1
  have c2 := conv_bytes h2
  generalize strOf l = s at *
  clear h1 h2
  go_enter Try.func13, Try.ntmps13
  go_wp2
  go_ret
  exact ⟨rfl, rfl⟩
end Go.Proofs.Ytcafnliedkhjmaa.Walks
