/-
  The program's fill and Decode: whatever the bytes, Decode answers what they say. Condition: the slice can be read, and is no longer than a slice may be.
-/
import Derived.Test.YtcafnliedkhjmabRows
import Derived.Test.YtcafnliedkhjmabChecked
import Derived.Test.YtcafnliedkhjmabRead
import Derived.Deep.QuietTactic
import Derived.BigQuiet
import Derived.WalkKit
import Derived.ProofKit
import Derived.Handy
import Derived.LoopTactic
import Derived.Below
import Derived.Laws.BitsAllLaws
import Derived.RegionTactic
import Derived.Deep.RegionHeld3
import Derived.Deep.DrawnRows
import Derived.Deep.AppendLies
import Derived.Laws.OwnMore
import Derived.Deep.Onto
namespace Go.Proofs.Ytcafnliedkhjmab.Walks
open Go.RowKit
open Go.Proofs.Ytcafnliedkhjmab.Plain
set_option linter.unusedVariables false
attribute [local go_sem ↓] Go.wp_at_zero Go.wp_at_succ


/-- Bytes that lie in another block than be. -/
def BytesOff (w : World) (v : Value) (l : List Nat) (be : Nat) : Prop :=
  ∃ a cap, v = .slice a l.length cap ∧ l.length ≤ cap ∧ (l = [] ∨ ∃ b off, a = some ⟨b, off, none⟩ ∧ b < w.heap.size ∧ b ≠ be ∧ ∀ i, i < l.length → w.cell? ⟨b, off + i, none⟩ = some (.int .u8 ((l.getD i 0 : Nat) : Int)))

theorem bytesOff_drop {w : World} {b off cap s be : Nat} {l : List Nat} (hc : l.length ≤ cap) (hb : b < w.heap.size) (hne : b ≠ be) (h : ∀ i, i < l.length → w.cell? ⟨b, off + i, none⟩ = some (.int .u8 ((l.getD i 0 : Nat) : Int))) (hs : s ≤ l.length) :
    BytesOff w (.slice (if cap = s then some ⟨b, off, none⟩ else some ⟨b, off + s, none⟩) (l.length - s) (cap - s)) (l.drop s) be := by
  refine ⟨_, _, by rw [List.length_drop], by rw [List.length_drop]; omega, ?_⟩
  by_cases hl : s = l.length
  · exact .inl (by rw [hl]; simp)
  · refine .inr ⟨b, off + s, by rw [if_neg (by omega)], hb, hne, fun i hi => ?_⟩
    rw [List.length_drop] at hi
    rw [Nat.add_assoc, h (s + i) (by omega)]
    simp [List.getD]

theorem bytesOff_any {w : World} {v : Value} {l : List Nat} {be : Nat} (h : BytesOff w v l be) {wr : World} (hg : w.grownBy wr (some be)) (hl : l.length ≤ 64) (hx : ∀ x ∈ l, x < 256) :
    Calls Try.prog 18 #[v] wr (RdPost l wr) := by
  obtain ⟨a, cap, rfl, hc, rfl | ⟨b, off, rfl, hb, hne, h1⟩⟩ := h
  · exact rd_empty a cap wr
  · exact rd_any b off cap l wr hl hx (fun i hi => by rw [hg.cell_far ⟨b, off + i, none⟩ hb (by simpa using hne)]; exact h1 i hi)

def FillPost (fs : List Fld) (l : List Nat) (e : Ev) (be : Nat) (w : World) (r : Ending) (w' : World) : Prop :=
  r = .returned (.int .i64 (fill fs l e).2) ∧ w.grownBy w' (some be) ∧ ((fill fs l e).2 = 0 → EvAt w' be (fill fs l e).1)

theorem fill_nil_nil (e : Ev) : fill [] [] e = (e, 0) := by rw [fill]
theorem fill_nil_cons (x : Nat) (t : List Nat) (e : Ev) : fill [] (x :: t) e = (Ev.zero, 3) := by rw [fill]
theorem fill_bad (f : Fld) (fs : List Fld) (l : List Nat) (e : Ev) (c : Int) (h : rd l = .inl c) : fill (f :: fs) l e = (Ev.zero, c) := by rw [fill, h]
theorem fill_out (f : Fld) (fs : List Fld) (l : List Nat) (e : Ev) (n s : Nat) (h : rd l = .inr (n, s)) (hn : ¬ (f.lo ≤ (n : Int) ∧ (n : Int) ≤ f.hi)) : fill (f :: fs) l e = (Ev.zero, 2) := by rw [fill, h]; simp only []; rw [if_neg hn]
theorem fill_in (f : Fld) (fs : List Fld) (l : List Nat) (e : Ev) (n s : Nat) (h : rd l = .inr (n, s)) (hn : f.lo ≤ (n : Int) ∧ (n : Int) ≤ f.hi) : fill (f :: fs) l e = fill fs (l.drop s) (e.put f.off n) := by rw [fill, h]; simp only []; rw [if_pos hn]
theorem rd_bad_ne {l : List Nat} {c : Int} (h : rd l = .inl c) : c ≠ 0 := by
  unfold rd at h
  split at h
  · cases h; decide
  · split at h
    · cases h; decide
    · split at h
      · cases h; decide
      · cases h

set_option maxHeartbeats 1000000 in
theorem fill_any (be : Nat) (a : Option Addr) (cap : Nat) (v : Value) (fs : List Fld) (l : List Nat) (e : Ev) (w : World) (hoff : ∀ f, f ∈ fs → 1 ≤ f.off ∧ f.off ≤ 7) (hf3 : fs.length ≤ 3) (hE : EvAt w be e) (hl : l.length ≤ 64) (hx : ∀ x ∈ l, x < 256)
    (hat : ∀ k f, fs[k]? = some f → ∃ g, a = some ⟨g, 0, none⟩ ∧ g ≠ be ∧ g < w.heap.size ∧ w.cell? ⟨g, k * 4, none⟩ = some (.pointer (pp be f)) ∧ w.cell? ⟨g, k * 4 + 1, none⟩ = some (.pointer (pq be f)) ∧ w.cell? ⟨g, k * 4 + 2, none⟩ = some (.int .i64 f.lo) ∧ w.cell? ⟨g, k * 4 + 3, none⟩ = some (.int .i64 f.hi))
    (hv : BytesOff w v l be) :
    Calls Try.prog 13 #[.slice a fs.length cap, v] w (FillPost fs l e be w) := by
  have HH : Hid (_ ∧ _ ∧ _) := ⟨hat, hoff, hx⟩
  clear hat hoff hx
  go_enter Try.func13, Try.ntmps13
  go_wp2
  go_loopw [1, 12] (fun u i wr => ∃ (k : Nat) (l' : List Nat) (e' : Ev), k ≤ fs.length ∧ i = .int .i64 (k : Int) ∧ fill fs l e = fill (fs.drop k) l' e' ∧ BytesOff w u l' be ∧ EvAt wr be e' ∧ w.grownBy wr (some be) ∧ l'.length ≤ 64 ∧ ∀ x ∈ l', x < 256) (fun _ i _ => fs.length - (intOf i).toNat)
  case atStart => exact ⟨0, l, e, Nat.zero_le _, rfl, rfl, hv, hE, ⟨rfl, rfl, rfl, Nat.le_refl _, fun _ _ _ => rfl⟩, hl, HH.out.2.2⟩
  case round =>
    obtain ⟨k, l', e', hk, rfl, hfe, hv', hE', hg, hl', hx'⟩ := hrel
    have HF : Hid (_ ∧ _ ∧ _ ∧ _) := ⟨hfe, hv', hx', hv⟩
    clear hfe hv' hx' hv
    have hsz := hg.size
    have hbl := hE'.lt
    by_cases hlt : k < fs.length
    · have hfk : fs[k]? = some fs[k] := List.getElem?_eq_getElem hlt
      have hdr : fs.drop k = fs[k] :: fs.drop (k + 1) := List.drop_eq_getElem_cons hlt
      have hof := HH.out.2.1 fs[k] (List.getElem_mem hlt)
      generalize fs[k] = f at *
      obtain ⟨g, rfl, g1, g2, c0, c1, c2, c3⟩ := HH.out.1 k f hfk
      have hgr : ∀ o, wr.cell? ⟨g, o, none⟩ = w.cell? ⟨g, o, none⟩ := fun o => hg.cell_far ⟨g, o, none⟩ g2 (by simpa using g1)
      rw [← hgr] at c0 c1 c2 c3
      have HT : Hid (_ ∧ _) := ⟨hdr, hfk⟩
      clear hfk hdr hgr
      have hg' : ∀ x, w.grownBy (wr.alloc x) (some be) := fun x => grown_trans hg (grown_of_below ((Below.refl _ _).alloc (Nat.le_refl _) _))
      have HG : Hid (_ ∧ _) := ⟨hg', hg⟩
      clear hg' hg
      have hnum := bytesOff_any HF.out.2.1 (HG.out.1 (Obj.cells #[Value.pointer (pp be f), Value.pointer (pq be f), Value.int IntKind.i64 f.lo, Value.int IntKind.i64 f.hi] 44)) hl' HF.out.2.2.1
      have HN : Hid _ := hnum
      clear hnum
      go_wp2_with fail
      refine Calls.mono HN.out ?_
      rintro r w1 ⟨hbad, hok, rfl⟩
      cases hrd : rd l' with
      | inl c =>
        obtain rfl := hbad c hrd
        have hne := rd_bad_ne hrd
        have hne' : (c != 0) = true := by rw [bne_iff_ne]; exact hne
        have hfin : fill fs l e = (Ev.zero, c) := by rw [HF.out.1, HT.out.1, fill_bad _ _ _ _ _ hrd]
        have HR : Hid (_ ∧ _) := ⟨hfin, hne⟩
        clear hbad hok hrd hfin hne
        go_wp2
        go_ret
        refine ⟨by rw [HR.out.1]; rfl, HG.out.1 _, fun h => absurd h (by rw [HR.out.1]; exact HR.out.2)⟩
      | inr q =>
        obtain ⟨n, s⟩ := q
        obtain rfl := hok n s hrd
        obtain ⟨s1, s2, s6, n6⟩ := rd_ok_le hrd
        obtain ⟨a', cap', rfl, hc', hl0 | ⟨b, off, rfl, hb, hbne, hcell⟩⟩ := HF.out.2.1
        · rw [hl0] at s2; simp at s2; omega
        · have HR : Hid (_ ∧ _) := ⟨hrd, hcell⟩
          clear hbad hok hrd hcell HN
          have hi1 : (0 : Int) ≤ (s : Int) := by omega
          have hi2 : (s : Int) ≤ (l'.length : Int) := by omega
          have hi3 : (l'.length : Int) ≤ (cap' : Int) := by omega
          by_cases hin : f.lo ≤ (n : Int) ∧ (n : Int) ≤ f.hi
          · go_wp2_with fail
            refine (within_yes _ _ f.lo f.hi (n : Int) _ hin.1 hin.2).mono ?_
            rintro r w2 ⟨rfl, hb2⟩
            have hE2 : EvAt w2 be e' := EvAt.below (b := be) (by unfold EvAt; rw [Below.heap_alloc _ _ _ hbl]; exact hE') hb2 (by simp; omega)
            have n0 : w2.cell? ⟨wr.heap.size, 0, none⟩ = some (.pointer (pp be f)) := by rw [hb2.cell (p := ⟨wr.heap.size, 0, none⟩) (by simp)]; simp
            have n1 : w2.cell? ⟨wr.heap.size, 1, none⟩ = some (.pointer (pq be f)) := by rw [hb2.cell (p := ⟨wr.heap.size, 1, none⟩) (by simp)]; simp
            have n2 : w2.cell? ⟨wr.heap.size, 2, none⟩ = some (.int .i64 f.lo) := by rw [hb2.cell (p := ⟨wr.heap.size, 2, none⟩) (by simp)]; simp
            have n3 : w2.cell? ⟨wr.heap.size, 3, none⟩ = some (.int .i64 f.hi) := by rw [hb2.cell (p := ⟨wr.heap.size, 3, none⟩) (by simp)]; simp
            have HG2 : Hid (w.grownBy w2 (some be)) := grown_trans (HG.out.1 _) (grown_of_below hb2)
            clear hb2
            go_wp2_with fail
            refine (set_any be f e' (n : Int) _ hE2 hof.1 hof.2).mono ?_
            rintro r w3 ⟨rfl, hE3, hg3⟩
            clear n0 n1 n2 n3
            go_wp2
            refine ⟨⟨k + 1, l'.drop s, e'.put f.off n, by omega, by go_num, ?_, bytesOff_drop hc' hb hbne HR.out.2 s2, hE3, grown_trans HG2.out hg3, by rw [List.length_drop]; omega, fun x hx => HF.out.2.2.1 x (List.mem_of_mem_drop hx)⟩, by simp [intOf]; omega⟩
            rw [HF.out.1, HT.out.1, fill_in _ _ _ _ _ _ HR.out.1 hin]
          · go_wp2_with fail
            refine (within_no _ _ f.lo f.hi (n : Int) _ hin).mono ?_
            rintro r w2 ⟨rfl, hb2⟩
            have hfin : fill fs l e = (Ev.zero, 2) := by rw [HF.out.1, HT.out.1, fill_out _ _ _ _ _ _ HR.out.1 hin]
            have HQ : Hid (_ ∧ _) := ⟨hfin, grown_trans (HG.out.1 _) (grown_of_below hb2)⟩
            clear hfin hb2
            go_wp2
            go_ret
            refine ⟨by rw [HQ.out.1]; rfl, HQ.out.2, fun h => absurd h (by rw [HQ.out.1]; decide)⟩
    · have hkl : k = fs.length := by omega
      subst hkl
      have hfe := HF.out.1
      rw [List.drop_length] at hfe
      obtain ⟨a', cap', rfl, hc', _⟩ := HF.out.2.1
      cases l' with
      | nil =>
        rw [fill_nil_nil] at hfe
        have HR : Hid (fill fs l e = (e', 0)) := hfe
        clear hfe
        go_wp2
        go_ret
        exact ⟨by rw [HR.out]; rfl, hg, fun _ => by rw [HR.out]; exact hE'⟩
      | cons x t =>
        rw [fill_nil_cons] at hfe
        have HR : Hid (fill fs l e = (Ev.zero, 3)) := hfe
        clear hfe
        have hpos : (0 : Int) < ((x :: t).length : Int) := by simp only [List.length_cons]; omega
        generalize (x :: t).length = m at *
        go_wp2
        go_ret
        exact ⟨by rw [HR.out]; rfl, hg, fun h => absurd h (by rw [HR.out]; decide)⟩

theorem heap_new2 (w : World) (A B : Obj) : ((w.alloc A).alloc B).heap[w.heap.size + 1]? = some B := by have := heap_new (w.alloc A) B; simpa using this
theorem heap_first (w : World) (A B : Obj) : ((w.alloc A).alloc B).heap[w.heap.size]? = some A := by rw [Below.heap_alloc _ _ _ (by simp)]; exact heap_new w A

def DecPost (l : List Nat) (w : World) (r : Ending) (w' : World) : Prop :=
  r = .returned (.tuple #[.agg (arr (dec l).1), .int .i64 (dec l).2]) ∧ Below w.heap.size w w'

theorem arr_zero : arr Ev.zero = #[.int .i64 0, .int .i64 0, .int .i64 0, .int .i64 0, .bool false, .int .i64 0, .int .i64 0, .int .i64 0] := rfl

theorem dec_long (l : List Nat) (h : 64 < l.length) : dec l = (Ev.zero, 1) := by unfold dec; rw [if_pos h]
theorem dec_nil : dec [] = (Ev.zero, 4) := rfl
theorem dec_kind (k : Nat) (t : List Nat) (h : ¬ 64 < (k :: t).length) (hk : flds k = none) : dec (k :: t) = (Ev.zero, 5) := by unfold dec; rw [if_neg h]; simp only [hk]
theorem dec_some (k : Nat) (t : List Nat) (fs : List Fld) (h : ¬ 64 < (k :: t).length) (hk : flds k = some fs) : dec (k :: t) = fill fs t { Ev.zero with kind := (k : Int) } := by unfold dec; rw [if_neg h]; simp only [hk]
theorem fill_zero : ∀ (fs : List Fld) (l : List Nat) (e : Ev), (fill fs l e).2 ≠ 0 → (fill fs l e).1 = Ev.zero
  | [], [], e, h => by rw [fill_nil_nil] at h; exact absurd rfl h
  | [], x :: t, e, h => by rw [fill_nil_cons]
  | f :: fs, l, e, h => by
    cases hrd : rd l with
    | inl c => rw [fill_bad _ _ _ _ _ hrd]
    | inr q =>
      obtain ⟨n, s⟩ := q
      by_cases hin : f.lo ≤ (n : Int) ∧ (n : Int) ≤ f.hi
      · rw [fill_in _ _ _ _ _ _ hrd hin] at h ⊢; exact fill_zero _ _ _ h
      · rw [fill_out _ _ _ _ _ _ hrd hin]

set_option maxHeartbeats 1000000 in
theorem decode_long (a : Option Addr) (len cap : Nat) (l : List Nat) (w : World) (hl : l.length = len) (h : 64 < len) (hm : len ≤ maxLen) :
    Calls Try.prog 8 #[.slice a len cap] w (DecPost l w) := by
  have HD : Hid (dec l = (Ev.zero, 1)) := dec_long l (by omega)
  have h1 : (64 : Int) < (len : Int) := by omega
  unfold maxLen at hm
  clear h hl
  go_enter Try.func8, Try.ntmps8
  go_wp2
  refine bodyPost_ret (v := .tuple #[.agg (arr Ev.zero), .int .i64 1]) (by simp [results, Try.results8, go_sem, arr_zero]) rfl ⟨by rw [HD.out], ?_⟩
  exact (Below.refl _ _).alloc (Nat.le_refl _) _

set_option maxHeartbeats 1000000 in
theorem decode_nil (a : Option Addr) (cap : Nat) (w : World) :
    Calls Try.prog 8 #[.slice a 0 cap] w (DecPost [] w) := by
  go_enter Try.func8, Try.ntmps8
  go_wp2
  refine bodyPost_ret (v := .tuple #[.agg (arr Ev.zero), .int .i64 4]) (by simp [results, Try.results8, go_sem, arr_zero]) rfl ⟨rfl, ?_⟩
  exact (Below.refl _ _).alloc (Nat.le_refl _) _

set_option maxHeartbeats 1000000 in
theorem decode_kind (b off cap len k : Nat) (t : List Nat) (w : World) (hl : (k :: t).length = len) (h : len ≤ 64) (hk : flds k = none) (hkb : k < 256) (hc0 : w.cell? ⟨b, off, none⟩ = some (.int .u8 (k : Int))) :
    Calls Try.prog 8 #[.slice (some ⟨b, off, none⟩) len cap] w (DecPost (k :: t) w) := by
  have HD : Hid (dec (k :: t) = (Ev.zero, 5)) := dec_kind k t (by omega) hk
  have hbl : b < w.heap.size := World.block_lt_of_cell? w _ hc0
  have hk0 : (k : Int) < 1 ∨ 7 < (k : Int) := by
    rcases flds_cases (k : Int) with ⟨h1, _⟩ | h1 | h1 | h1 | h1 | h1 | h1 | h1
    · exact h1
    all_goals (rw [h1] at hk; simp [flds] at hk)
  have h1 : decide ((64 : Int) < (len : Int)) = false := by simp; omega
  have h2 : ((len : Int) == 0) = false := by simp at hl; simp; omega
  have h3 : (0 : Int) < (len : Int) := by simp at hl; omega
  have HL : Hid (_ ∧ _) := ⟨hl, h⟩
  clear hl h hk
  go_enter Try.func8, Try.ntmps8
  go_wp2_with fail
  refine (fields_none (w.heap.size + 1) { Ev.zero with kind := (k : Int) } _ (heap_new2 w _ _) hk0).mono ?_
  rintro r w0 ⟨rfl, rfl⟩
  clear hk0
  go_wp2
  refine bodyPost_ret (v := .tuple #[.agg (arr Ev.zero), .int .i64 5]) (by simp [results, Try.results8, go_sem, arr_zero]) rfl ⟨by rw [HD.out], ?_⟩
  exact ((Below.refl _ _).alloc (Nat.le_refl _) _).alloc (by simp) _

set_option maxHeartbeats 1000000 in
theorem decode_some (b off cap len k : Nat) (t : List Nat) (fs : List Fld) (w : World) (hl : (k :: t).length = len) (h : len ≤ 64) (hcap : len ≤ cap) (hk : flds k = some fs) (hx : ∀ x ∈ k :: t, x < 256)
    (hcell : ∀ i, i < (k :: t).length → w.cell? ⟨b, off + i, none⟩ = some (.int .u8 (((k :: t).getD i 0 : Nat) : Int))) :
    Calls Try.prog 8 #[.slice (some ⟨b, off, none⟩) len cap] w (DecPost (k :: t) w) := by
  have hc0 : w.cell? ⟨b, off, none⟩ = some (.int .u8 (k : Int)) := by simpa using hcell 0 (by simp)
  have hkb : k < 256 := hx k (List.mem_cons_self ..)
  have hbl : b < w.heap.size := World.block_lt_of_cell? w _ hc0
  have h1 : decide ((64 : Int) < (len : Int)) = false := by simp; omega
  have h2 : ((len : Int) == 0) = false := by simp at hl; simp; omega
  have h3 : (1 : Int) ≤ (len : Int) := by simp at hl; omega
  have h3' : (0 : Int) < (len : Int) := by simp at hl; omega
  have h4 : (len : Int) ≤ (cap : Int) := by omega
  have HD : Hid (dec (k :: t) = fill fs t { Ev.zero with kind := (k : Int) }) := dec_some k t fs (by omega) hk
  have HL : Hid (_ ∧ _ ∧ _ ∧ _ ∧ _) := ⟨hl, h, hk, hx, hcell⟩
  have hf3 := flds_len hk
  clear hl h hk hx hcell
  go_enter Try.func8, Try.ntmps8
  go_wp2_with fail
  refine (fields_some (w.heap.size + 1) { Ev.zero with kind := (k : Int) } fs _ (heap_new2 w _ _) HL.out.2.2.1).mono ?_
  rintro r w0 ⟨v, rfl, hb0, hown⟩
  obtain ⟨a, acap, rfl, hat⟩ := own_one hown
  have hE0 : EvAt w0 (w.heap.size + 1) { Ev.zero with kind := (k : Int) } := EvAt.below (heap_new2 w _ _) hb0 (by simp)
  have hR0 : EvAt w0 w.heap.size Ev.zero := EvAt.below (heap_first w _ _) hb0 (by simp; omega)
  have hbw : Below w.heap.size w w0 := (((Below.refl _ _).alloc (Nat.le_refl _) _).alloc (by simp) _).trans (hb0.mono (by simp; omega))
  have HO : Hid (_ ∧ _ ∧ _ ∧ _ ∧ _) := ⟨hat, hE0, hR0, hbw, hb0⟩
  have hv0 : BytesOff w0 (.slice (if cap = 1 then some ⟨b, off, none⟩ else some ⟨b, off + 1, none⟩) (len - 1) (cap - 1)) t (w.heap.size + 1) := by
    have := bytesOff_drop (w := w0) (b := b) (off := off) (cap := cap) (s := 1) (be := w.heap.size + 1) (l := k :: t) (by rw [HL.out.1]; omega) (by have := hbw.size; omega) (by omega) (fun i hi => by rw [hbw.cell (p := ⟨b, off + i, none⟩) hbl]; exact HL.out.2.2.2.2 i hi) (by simp)
    rw [HL.out.1] at this
    exact this
  have hfl : ∀ v', BytesOff w0 v' t (w.heap.size + 1) → Calls Try.prog 13 #[.slice a fs.length acap, v'] w0 (FillPost fs t { Ev.zero with kind := (k : Int) } (w.heap.size + 1) w0) := fun v' hv' =>
    fill_any (w.heap.size + 1) a acap v' fs t _ w0 (flds_off HL.out.2.2.1) hf3 hE0 (by have h1 := HL.out.1; have h2 := HL.out.2.1; simp at h1; omega) (fun x hx => HL.out.2.2.2.1 x (List.mem_cons_of_mem _ hx))
      (fun k' f hf => by obtain ⟨g, g0, g1, g2, g3⟩ := hat k' f hf; exact ⟨g, g0, by simp at g1; omega, g2, g3⟩) hv'
  have HV : Hid (_ ∧ _) := ⟨hfl, hv0⟩
  clear hown hat hE0 hR0 hbw hb0 hfl hv0
  have hcs : (∃ A L C, cap = 1 ∧ len = 1 ∧ A = (⟨b, off, none⟩ : Addr) ∧ L = 0 ∧ C = 0 ∧ Hid (Calls Try.prog 13 #[.slice a fs.length acap, .slice (some A) L C] w0 (FillPost fs t { Ev.zero with kind := (k : Int) } (w.heap.size + 1) w0))) ∨ (¬ cap = 1 ∧ Hid (Calls Try.prog 13 #[.slice a fs.length acap, .slice (some ⟨b, off + 1, none⟩) (len - 1) (cap - 1)] w0 (FillPost fs t { Ev.zero with kind := (k : Int) } (w.heap.size + 1) w0))) := by
    have h := HV.out.1 _ HV.out.2
    by_cases hc1 : cap = 1
    · have hl1 : len = 1 := by omega
      rw [if_pos hc1, hc1, hl1] at h
      exact .inl ⟨_, _, _, hc1, hl1, rfl, rfl, rfl, h⟩
    · rw [if_neg hc1] at h
      exact .inr ⟨hc1, h⟩
  clear HV
  rcases hcs with ⟨A, L, C, rfl, rfl, rfl, rfl, rfl, HFL⟩ | ⟨hcap1, HFL⟩
  all_goals
    go_wp2_with fail
    refine Calls.mono HFL.out ?_
    rintro r w1 ⟨rfl, hg1, hev⟩
    have hR1 : EvAt w1 w.heap.size Ev.zero := by have h := HO.out.2.2.1; unfold EvAt; rw [hg1.block w.heap.size h.lt (by simp)]; exact h
    have hb1 : Below w.heap.size w w1 := HO.out.2.2.2.1.grown hg1 (by have := HO.out.2.1.lt; omega) (by intro k' hk'; cases hk'; omega)
    have hsz1 := hR1.lt
    obtain ⟨r0, r1, r2, r3, r4, r5, r6, r7⟩ := hR1.all
    have hfz := hR1.frozen
    have hfz0 := hfz 0; have hfz1 := hfz 1; have hfz2 := hfz 2; have hfz3 := hfz 3; have hfz4 := hfz 4; have hfz5 := hfz 5; have hfz6 := hfz 6; have hfz7 := hfz 7
    have hz := fill_zero fs t { Ev.zero with kind := (k : Int) }
    have HD' := HD.out
    generalize fill fs t { Ev.zero with kind := (k : Int) } = p at *
    obtain ⟨e', c⟩ := p
    dsimp only at *
    have HZ : Hid (_ ∧ _ ∧ _ ∧ _) := ⟨hz, HD', hb1, hg1⟩
    clear hz HD' hb1 hg1 hfz hR1
    by_cases hc : c = 0
    · subst hc
      have hE1 := hev rfl
      obtain ⟨e0, e1, e2, e3, e4, e5, e6, e7⟩ := hE1.all
      clear hev hE1
      go_wp2
      refine bodyPost_ret (v := .tuple #[.agg (arr e'), .int .i64 0]) (by simp [results, Try.results8, go_sem, arr, r0, r1, r2, r3, r4, r5, r6, r7]) rfl ⟨by rw [HZ.out.2.1], ?_⟩
      exact ((((((((HZ.out.2.2.1.setCell (Nat.le_refl _) _).setCell (Nat.le_refl _) _).setCell (Nat.le_refl _) _).setCell (Nat.le_refl _) _).setCell (Nat.le_refl _) _).setCell (Nat.le_refl _) _).setCell (Nat.le_refl _) _).setCell (Nat.le_refl _) _)
    · have hne : (c != 0) = true := by rw [bne_iff_ne]; exact hc
      obtain rfl := HZ.out.1 hc
      clear hev hc
      go_wp2
      refine bodyPost_ret (v := .tuple #[.agg (arr Ev.zero), .int .i64 c]) (by simp [results, Try.results8, go_sem, arr_zero, r0, r1, r2, r3, r4, r5, r6, r7]) rfl ⟨by rw [HZ.out.2.1], ?_⟩
      exact ((((((((HZ.out.2.2.1.setCell (Nat.le_refl _) _).setCell (Nat.le_refl _) _).setCell (Nat.le_refl _) _).setCell (Nat.le_refl _) _).setCell (Nat.le_refl _) _).setCell (Nat.le_refl _) _).setCell (Nat.le_refl _) _).setCell (Nat.le_refl _) _)

theorem decode_any (v : Value) (l : List Nat) (w : World) (hv : BytesAt w v l) (hx : ∀ x ∈ l, x < 256) (hm : l.length ≤ maxLen) : Calls Try.prog 8 #[v] w (DecPost l w) := by
  obtain ⟨a, cap, rfl, hc, h⟩ := hv
  by_cases h64 : 64 < l.length
  · exact decode_long a l.length cap l w rfl h64 hm
  · cases l with
    | nil => exact decode_nil a cap w
    | cons k t =>
      rcases h with ⟨_, h⟩ | h | ⟨b, off, rfl, hb, hcell⟩
      · cases h
      · cases h
      · cases hk : flds (k : Int) with
        | none => exact decode_kind b off cap _ k t w rfl (by omega) hk (hx k (List.mem_cons_self ..)) (by simpa using hcell 0 (by simp))
        | some fs => exact decode_some b off cap _ k t fs w rfl (by omega) hc hk hx hcell
end Go.Proofs.Ytcafnliedkhjmab.Walks
