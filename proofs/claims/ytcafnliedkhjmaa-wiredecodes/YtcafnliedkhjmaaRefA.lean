/-
  The document's EventRead where no field is read: too long, empty, no such kind. Condition: the slice can be read.
-/
import Derived.Test.YtcafnliedkhjmaaRows
import Derived.Test.YtcafnliedkhjmaaChecked
import Derived.Test.YtcafnliedkhjmaaNumz
import Derived.Deep.QuietTactic
import Derived.BigQuiet
import Derived.WalkKit
import Derived.ProofKit
import Derived.Handy
import Derived.LoopTactic
import Derived.Below
import Derived.Laws.BitsAllLaws
import Derived.RegionTactic
import Derived.Deep.RegionHeld3
import Derived.Deep.DrawnRows
import Derived.Deep.AppendLies
import Derived.Laws.OwnMore
import Derived.Deep.Onto
namespace Go.Proofs.Ytcafnliedkhjmaa.Walks
open Go.RowKit
open Go.Proofs.Ytcafnliedkhjmaa.Plain
set_option linter.unusedVariables false
attribute [local go_sem ↓] Go.wp_at_zero Go.wp_at_succ


theorem puts_snoc : ∀ (fs : List Fld) (ns : List Int) (e : Ev) (f : Fld) (n : Int), fs.length = ns.length → puts e (fs ++ [f]) (ns ++ [n]) = (puts e fs ns).put f.off n
  | [], [], e, f, n, h => by simp [puts]
  | [], _ :: _, e, f, n, h => by simp at h
  | _ :: _, [], e, f, n, h => by simp at h
  | g :: fs, m :: ns, e, f, n, h => by simp only [List.cons_append, puts]; exact puts_snoc fs ns _ f n (by simpa using h)

theorem val_drop (X : List Nat) (q : Nat) (h : q < X.length) : val (X.drop q) = X.getD q 0 % 128 + 128 * val (X.drop (q + 1)) := by
  rw [List.drop_eq_getElem_cons h, val, getD_at X q h]

theorem drop_getD (l : List Nat) (a i : Nat) : (l.drop a).getD i 0 = l.getD (a + i) 0 := by simp [List.getD]
theorem take_getD (l : List Nat) (a i : Nat) (h : i < a) : (l.take a).getD i 0 = l.getD i 0 := by simp [List.getD, List.getElem?_take_of_lt h]

set_option maxHeartbeats 1000000 in
theorem read_long (a : Option Addr) (len cap : Nat) (l : List Nat) (w : World) (hl : l.length = len) (h : 64 < len) (hm : len ≤ maxLen) :
    Calls Try.prog 16 #[.slice a len cap] w (DecPost l w) := by
  have HD : Hid (dec l = (Ev.zero, 1)) := dec_long l (by omega)
  have h1 : (64 : Int) < (len : Int) := by omega
  unfold maxLen at hm
  clear h hl
  go_enter Try.func16, Try.ntmps16
  go_wp2
  refine bodyPost_ret (v := .tuple #[.agg (arr Ev.zero), .int .i64 1]) (by simp [results, Try.results16, go_sem, arr_zero]) rfl ⟨by rw [HD.out], ?_⟩
  exact (Below.refl _ _).alloc (Nat.le_refl _) _

set_option maxHeartbeats 1000000 in
theorem read_nil (a : Option Addr) (cap : Nat) (w : World) :
    Calls Try.prog 16 #[.slice a 0 cap] w (DecPost [] w) := by
  go_enter Try.func16, Try.ntmps16
  go_wp2
  refine bodyPost_ret (v := .tuple #[.agg (arr Ev.zero), .int .i64 4]) (by simp [results, Try.results16, go_sem, arr_zero]) rfl ⟨rfl, ?_⟩
  exact (Below.refl _ _).alloc (Nat.le_refl _) _

theorem kind_none (k : Nat) (hk : flds (k : Int) = none) : (k : Int) < 1 ∨ 7 < (k : Int) := by
  rcases flds_cases (k : Int) with ⟨h1, _⟩ | h1 | h1 | h1 | h1 | h1 | h1 | h1
  · exact h1
  all_goals (rw [h1] at hk; simp [flds] at hk)

set_option maxHeartbeats 1000000 in
theorem read_kind (b off cap len k : Nat) (t : List Nat) (w : World) (hl : (k :: t).length = len) (h : len ≤ 64) (hk : flds k = none) (hkb : k < 256) (hc0 : w.cell? ⟨b, off, none⟩ = some (.int .u8 (k : Int))) :
    Calls Try.prog 16 #[.slice (some ⟨b, off, none⟩) len cap] w (DecPost (k :: t) w) := by
  have HD : Hid (dec (k :: t) = (Ev.zero, 5)) := dec_kind k t (by omega) hk
  have hbl : b < w.heap.size := World.block_lt_of_cell? w _ hc0
  have hk0 := kind_none k hk
  have h1 : decide ((64 : Int) < (len : Int)) = false := by simp; omega
  have h2 : ((len : Int) == 0) = false := by simp at hl; simp; omega
  have h3 : (0 : Int) < (len : Int) := by simp at hl; omega
  have HL : Hid (_ ∧ _) := ⟨hl, h⟩
  clear hl h hk
  go_enter Try.func16, Try.ntmps16
  go_wp2_with fail
  refine (nums_none { Ev.zero with kind := (k : Int) } _ hk0).mono ?_
  rintro r w0 ⟨rfl, hb0⟩
  have hR0 : EvAt w0 w.heap.size Ev.zero := EvAt.below (heap_new w _) hb0 (by simp)
  obtain ⟨r0, r1, r2, r3, r4, r5, r6, r7⟩ := hR0.all
  have hfz := hR0.frozen
  have hfz0 := hfz 0; have hfz1 := hfz 1; have hfz2 := hfz 2; have hfz3 := hfz 3; have hfz4 := hfz 4; have hfz5 := hfz 5; have hfz6 := hfz 6; have hfz7 := hfz 7
  have HB : Hid (Below w.heap.size w w0) := ((Below.refl _ _).alloc (Nat.le_refl _) _).trans (hb0.mono (by simp))
  clear hk0 hfz hb0 hR0
  go_wp2
  refine bodyPost_ret (v := .tuple #[.agg (arr Ev.zero), .int .i64 5]) (by simp [results, Try.results16, go_sem, arr_zero, r0, r1, r2, r3, r4, r5, r6, r7]) rfl ⟨by rw [HD.out], ?_⟩
  exact ((((((((HB.out.setCell (Nat.le_refl _) _).setCell (Nat.le_refl _) _).setCell (Nat.le_refl _) _).setCell (Nat.le_refl _) _).setCell (Nat.le_refl _) _).setCell (Nat.le_refl _) _).setCell (Nat.le_refl _) _).setCell (Nat.le_refl _) _)
end Go.Proofs.Ytcafnliedkhjmaa.Walks
