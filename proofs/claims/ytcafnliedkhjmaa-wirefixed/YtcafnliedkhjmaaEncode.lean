/-
  The program's Encode: an event without fault gives its bytes, another its fault and no bytes. No condition.
-/
import Derived.Test.YtcafnliedkhjmaaRows
import Derived.Test.YtcafnliedkhjmaaChecked
import Derived.Test.YtcafnliedkhjmaaNumber
import Derived.Deep.QuietTactic
import Derived.BigQuiet
import Derived.WalkKit
import Derived.ProofKit
import Derived.Handy
import Derived.LoopTactic
import Derived.Below
import Derived.Laws.BitsAllLaws
import Derived.RegionTactic
import Derived.Deep.RegionHeld3
import Derived.Deep.DrawnRows
import Derived.Deep.AppendLies
import Derived.Laws.OwnMore
import Derived.Deep.Onto
namespace Go.Proofs.Ytcafnliedkhjmaa.Walks
open Go.RowKit
open Go.Proofs.Ytcafnliedkhjmaa.Plain
set_option linter.unusedVariables false
attribute [local go_sem ↓] Go.wp_at_zero Go.wp_at_succ


theorem enc_len5 (n : Nat) (h : n ≤ 4294967295) : (enc n).length ≤ 5 := by
  by_cases h0 : n < 128
  · rw [enc_small n h0]; simp
  rw [enc_great n h0]
  by_cases h1 : n / 128 < 128
  · rw [enc_small _ h1]; simp
  rw [enc_great _ h1]
  by_cases h2 : n / 128 / 128 < 128
  · rw [enc_small _ h2]; simp
  rw [enc_great _ h2]
  by_cases h3 : n / 128 / 128 / 128 < 128
  · rw [enc_small _ h3]; simp
  rw [enc_great _ h3, enc_small _ (by omega)]; simp

theorem flds_bounds {k : Int} {fs : List Fld} (h : flds k = some fs) : (1 ≤ k ∧ k ≤ 7) ∧ ∀ f, f ∈ fs → 0 ≤ f.lo ∧ f.hi ≤ 4294967295 := by
  rcases flds_cases k with ⟨_, h'⟩ | rfl | rfl | rfl | rfl | rfl | rfl | rfl
  · rw [h'] at h; cases h
  all_goals (unfold flds at h; simp at h; subst h; simp)

theorem fault_ok {e : Ev} (h : fault e = 0) : ∃ fs, flds e.kind = some fs ∧ fs.all e.within = true ∧ e.clean fs = true := by
  unfold fault at h
  split at h
  · omega
  · rename_i fs hf
    by_cases h1 : fs.all e.within = true
    · rw [if_pos h1] at h
      by_cases h2 : e.clean fs = true
      · exact ⟨fs, hf, h1, h2⟩
      · rw [if_neg h2] at h; omega
    · rw [if_neg h1] at h; omega

theorem within_bounds {e : Ev} {fs : List Fld} (hf : flds e.kind = some fs) (hw : fs.all e.within = true) : ∀ f, f ∈ fs → 0 ≤ e.num f.off ∧ e.num f.off ≤ 4294967295 := by
  intro f hm
  have h1 := List.all_eq_true.1 hw f hm
  simp only [Ev.within, decide_eq_true_eq] at h1
  have h2 := (flds_bounds hf).2 f hm
  omega

/-- The bytes behind the first k fields. -/
def pre (e : Ev) (fs : List Fld) (k : Nat) : List Nat := e.kind.toNat :: (fs.take k).flatMap (fun f => enc (e.num f.off).toNat)

theorem pre_succ (e : Ev) (fs : List Fld) (k : Nat) (f : Fld) (h : fs.take (k + 1) = fs.take k ++ [f]) : pre e fs (k + 1) = pre e fs k ++ enc (e.num f.off).toNat := by
  simp [pre, h]
theorem pre_all (e : Ev) (fs : List Fld) (h : flds e.kind = some fs) : pre e fs fs.length = encEv e := by simp [pre, encEv, h]

theorem flat_len (e : Ev) : ∀ (fs : List Fld), (∀ f, f ∈ fs → 0 ≤ e.num f.off ∧ e.num f.off ≤ 4294967295) → (fs.flatMap (fun f => enc (e.num f.off).toNat)).length ≤ 5 * fs.length
  | [], _ => by simp
  | f :: fs, h => by
    have h1 := flat_len e fs (fun g hg => h g (List.mem_cons_of_mem _ hg))
    have h2 := enc_len5 (e.num f.off).toNat (by have := h f (List.mem_cons_self ..); omega)
    simp only [List.flatMap_cons, List.length_append, List.length_cons]
    omega

theorem pre_len (e : Ev) (fs : List Fld) (k : Nat) (hk : k ≤ fs.length) (h : ∀ f, f ∈ fs → 0 ≤ e.num f.off ∧ e.num f.off ≤ 4294967295) : (pre e fs k).length ≤ 5 * k + 1 := by
  have := flat_len e (fs.take k) (fun f hf => h f (List.mem_of_mem_take hf))
  simp only [pre, List.length_cons]
  rw [List.length_take, Nat.min_eq_left hk] at this
  omega

set_option maxHeartbeats 1000000 in
theorem encode_bad (e : Ev) (w : World) (h : fault e ≠ 0) :
    Calls Try.prog 11 #[.agg #[.int .i64 e.kind, .int .i64 e.key, .int .i64 e.slot, .int .i64 e.gen, .bool e.good, .int .i64 e.req, .int .i64 e.be, .int .i64 e.wt]] w fun r w' => r = .returned (.tuple #[.slice none 0 0, .int .i64 (fault e)]) ∧ Below w.heap.size w w' := by
  obtain ⟨x, hx⟩ : ∃ x, x = fault e := ⟨_, rfl⟩
  rw [← hx] at h ⊢
  have hne : (x != 0) = true := by rw [bne_iff_ne]; exact h
  have HX : Hid (x = fault e) := hx
  clear h hx
  go_enter Try.func11, Try.ntmps11
  go_wp2_with fail
  refine (check_any e _).mono ?_
  rintro r w1 ⟨rfl, hb1⟩
  rw [← HX.out]
  go_wp2
  go_ret2
  exact ⟨rfl, ((Below.refl _ _).alloc (Nat.le_refl _) _).trans (hb1.mono (by simp))⟩

set_option maxHeartbeats 1000000 in
theorem encode_ok (e : Ev) (w : World) (h : fault e = 0) :
    Calls Try.prog 11 #[.agg #[.int .i64 e.kind, .int .i64 e.key, .int .i64 e.slot, .int .i64 e.gen, .bool e.good, .int .i64 e.req, .int .i64 e.be, .int .i64 e.wt]] w fun r w' => ∃ v, r = .returned (.tuple #[v, .int .i64 0]) ∧ w'.ownsRow w.heap.size 5 1 v (encEv e).length (bcells (encEv e)) ∧ Below w.heap.size w w' := by
  obtain ⟨fs, hf, hall, hcl⟩ := fault_ok h
  have hlen := flds_len hf
  have hkb := (flds_bounds hf).1
  have hwb := within_bounds hf hall
  have HH : Hid (_ ∧ _ ∧ _) := ⟨hf, hwb, h⟩
  clear hall hcl hwb
  go_enter Try.func11, Try.ntmps11
  go_wp2_with fail
  refine (check_any e _).mono ?_
  rw [h]
  rintro r w1 ⟨rfl, hb1⟩
  have hE1 : EvAt w1 w.heap.size e := EvAt.below (heap_new w _) hb1 (by simp)
  clear h hf
  go_wp2_with fail
  refine (fields_some w.heap.size e fs _ hE1 HH.out.1).mono ?_
  rintro r w0 ⟨v, rfl, hb, hown⟩
  obtain ⟨a, cap, rfl, hat⟩ := own_one hown
  have hE0 : EvAt w0 w.heap.size e := EvAt.below hE1 hb hE1.lt
  have hw0 : Below w.heap.size w w0 := ((Below.refl _ _).alloc (Nat.le_refl _) _).trans ((below_tr hb1 hb).mono (by simp))
  have HO : Hid (_ ∧ _ ∧ _) := ⟨hat, hw0, hb⟩
  clear hown hat hb hb1 hw0
  obtain ⟨e0, e1, e2, e3, e4, e5, e6, e7⟩ := hE0.all
  clear e1 e2 e3 e4 e5 e6 e7
  have hEl := hE0.lt
  go_wp2
  go_loopw [7, 25] (fun x i wr => ∃ k : Nat, k ≤ fs.length ∧ i = .int .i64 k ∧ wr.ownsRow w0.heap.size 5 1 x (pre e fs k).length (bcells (pre e fs k)) ∧ Below w0.heap.size w0 wr) (fun _ i _ => fs.length - (intOf i).toNat)
  case atStart =>
    refine ⟨0, Nat.zero_le _, rfl, ?_, (Below.refl _ _).alloc (Nat.le_refl _) _⟩
    have := ownsRow_new (w := w0) (base := w0.heap.size) (n := 1) (e := 5) (size := 1) #[.int .u8 e.kind] (Nat.le_refl _) (by unfold maxLen; omega) rfl
    have e' : ((e.kind.toNat : Nat) : Int) = e.kind := by omega
    simpa [pre, bcells, e'] using this
  case round =>
    obtain ⟨k, hk, rfl, hown, hg⟩ := hrel
    have hpl := pre_len e fs k hk HH.out.2.1
    by_cases hlt : k < fs.length
    · have hfk : fs[k]? = some fs[k] := List.getElem?_eq_getElem hlt
      have hto : fs.take (k + 1) = fs.take k ++ [fs[k]] := List.take_succ_eq_append_getElem hlt
      have hoff := flds_off HH.out.1 fs[k] (List.getElem_mem hlt)
      have hnb := HH.out.2.1 fs[k] (List.getElem_mem hlt)
      generalize fs[k] = f at *
      obtain ⟨g, rfl, g1, g2, c0, c1, c2, c3⟩ := HO.out.1 k f hfk
      have hgr : ∀ o, wr.cell? ⟨g, o, none⟩ = w0.cell? ⟨g, o, none⟩ := fun o => hg.cell (p := ⟨g, o, none⟩) g2
      rw [← hgr] at c0 c1 c2 c3
      have HT : Hid (_ ∧ _) := ⟨hto, pre_succ e fs k f hto⟩
      clear hfk hto hgr
      have hsz := hg.size
      have hE : EvAt wr w.heap.size e := hE0.below hg hEl
      have hE' : ∀ x, EvAt (wr.alloc x) w.heap.size e := fun x => by unfold EvAt; rw [Below.heap_alloc _ _ _ (by omega)]; exact hE
      have HE : Hid (∀ x, EvAt (wr.alloc x) w.heap.size e) := hE'
      clear hE' hE
      go_wp2_with fail
      refine (get_any w.heap.size f e _ (HE.out _) hoff.1 hoff.2).mono ?_
      rintro r w2 ⟨rfl, hb2⟩
      have hown2 := owns_below (hown.alloc _) hb2
      have hbs : Below w0.heap.size w0 w2 := (hg.alloc hsz _).trans (hb2.mono (by simp; omega))
      have hs2 := hbs.size
      obtain ⟨n, hn⟩ := Int.eq_ofNat_of_zero_le hnb.1
      have HT2 : Hid (pre e fs (k + 1) = pre e fs k ++ enc n) := by have h := HT.out.2; rw [hn, Int.toNat_natCast] at h; exact h
      rw [hn]
      have hn2 : n ≤ 4294967295 := by omega
      clear hn hnb hb2
      go_wp2_with fail
      refine (append_any w0.heap.size _ (pre e fs k) n _ hown2 hs2 (by omega) hn2).mono ?_
      rintro r w3 ⟨v', rfl, hown3, hb3⟩
      go_wp2
      go_roundw
      case rel => exact ⟨k + 1, by omega, by go_num, by rw [HT2.out]; exact hown3, hbs.trans hb3⟩
      case measure => simp [intOf]; omega
    · have : k = fs.length := by omega
      subst this
      rw [pre_all e fs HH.out.1] at hown
      go_wp2
      go_ret2
      have hs := HO.out.2.1.size
      exact ⟨_, rfl, hown.mono hs, HO.out.2.1.trans (hg.mono hs)⟩
end Go.Proofs.Ytcafnliedkhjmaa.Walks
