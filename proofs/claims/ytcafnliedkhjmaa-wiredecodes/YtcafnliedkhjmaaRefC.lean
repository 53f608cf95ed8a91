/-
  The document's EventRead answers what the bytes say, whatever they are. Condition: the slice can be read, and is no longer than a slice may be.
-/
import Derived.Test.YtcafnliedkhjmaaRows
import Derived.Test.YtcafnliedkhjmaaChecked
import Derived.Test.YtcafnliedkhjmaaRefB
import Derived.Deep.QuietTactic
import Derived.BigQuiet
import Derived.WalkKit
import Derived.ProofKit
import Derived.Handy
import Derived.LoopTactic
import Derived.Below
import Derived.Laws.BitsAllLaws
import Derived.RegionTactic
import Derived.Deep.RegionHeld3
import Derived.Deep.DrawnRows
import Derived.Deep.AppendLies
import Derived.Laws.OwnMore
import Derived.Deep.Onto
namespace Go.Proofs.Ytcafnliedkhjmaa.Walks
open Go.RowKit
open Go.Proofs.Ytcafnliedkhjmaa.Plain
set_option linter.unusedVariables false
attribute [local go_sem ↓] Go.wp_at_zero Go.wp_at_succ


set_option maxHeartbeats 1000000 in
theorem numt (w : World) :
    Calls Try.prog 23 #[.agg #[.int .i64 7, .int .i64 0, .int .i64 0, .int .i64 0, .bool false, .int .i64 0, .int .i64 0, .int .i64 0]] w fun r w' => r = .returned (.tuple #[.slice none 0 0, .slice none 0 0, .slice none 0 0, .bool true]) ∧ Below w.heap.size w w' := by
  go_enter Try.func23, Try.ntmps23
  go_wp2
  exact bodyPost_ret (v := .tuple #[.slice none 0 0, .slice none 0 0, .slice none 0 0, .bool true]) (by simp [results, Try.results23, go_sem]) rfl ⟨rfl, (Below.refl _ _).alloc (Nat.le_refl _) _⟩

theorem kind_tick (k : Nat) (hk : flds (k : Int) = some []) : k = 7 := by
  rcases flds_cases (k : Int) with ⟨_, h1⟩ | h1 | h1 | h1 | h1 | h1 | h1 | h1
  · rw [h1] at hk; cases hk
  · rw [h1] at hk; simp [flds] at hk
  · rw [h1] at hk; simp [flds] at hk
  · rw [h1] at hk; simp [flds] at hk
  · rw [h1] at hk; simp [flds] at hk
  · rw [h1] at hk; simp [flds] at hk
  · rw [h1] at hk; simp [flds] at hk
  · omega

set_option maxRecDepth 100000 in
set_option maxHeartbeats 4000000 in
theorem read_tick (b off cap len k : Nat) (t : List Nat) (w : World) (hl : (k :: t).length = len) (h : len ≤ 64) (hk : flds k = some []) (hkb : k < 256)
    (hc0 : w.cell? ⟨b, off, none⟩ = some (.int .u8 (k : Int))) :
    Calls Try.prog 16 #[.slice (some ⟨b, off, none⟩) len cap] w (DecPost (k :: t) w) := by
  have hbl : b < w.heap.size := World.block_lt_of_cell? w _ hc0
  have h1 : decide ((64 : Int) < (len : Int)) = false := by simp; omega
  have h2 : ((len : Int) == 0) = false := by simp at hl; simp; omega
  have h3 : (1 : Int) ≤ (len : Int) := by simp at hl; omega
  have h3' : (0 : Int) < (len : Int) := by simp at hl; omega
  have HD : Hid (dec (k :: t) = fill [] t { Ev.zero with kind := (k : Int) }) := dec_some k t [] (by omega) hk
  have HL : Hid (_ ∧ _) := ⟨hl, hk⟩
  have hlen64 : len ≤ 64 := h
  clear hl h hk
  go_enter Try.func16, Try.ntmps16
  go_wp2_with fail
  have hnt := numt (w.alloc (Obj.cells #[.int .i64 0, .int .i64 0, .int .i64 0, .int .i64 0, .bool false, .int .i64 0, .int .i64 0, .int .i64 0] 23))
  rw [show (7 : Int) = (k : Int) by rw [kind_tick k HL.out.2]; rfl] at hnt
  refine hnt.mono ?_
  clear hnt
  rintro r w0 ⟨rfl, hb0⟩
  have hR0 : EvAt w0 w.heap.size Ev.zero := EvAt.below (heap_new w _) hb0 (by simp)
  have hbw : Below w.heap.size w w0 := ((Below.refl _ _).alloc (Nat.le_refl _) _).trans (hb0.mono (by simp))
  have hlr := hR0.lt
  obtain ⟨r0, r1, r2, r3, r4, r5, r6, r7⟩ := hR0.all
  have hfz := hR0.frozen
  have hfz0 := hfz 0; have hfz1 := hfz 1; have hfz2 := hfz 2; have hfz3 := hfz 3; have hfz4 := hfz 4; have hfz5 := hfz 5; have hfz6 := hfz 6; have hfz7 := hfz 7
  have HO : Hid (_ ∧ _) := ⟨hR0, hbw⟩
  clear hfz hR0 hbw hb0
  go_wp2
  go_loop [9, 10] (fun x i => x = .int .i64 1 ∧ i = .int .i64 0) (fun _ i => 0)
  case atStart => exact ⟨rfl, rfl⟩
  case round =>
    obtain ⟨rfl, rfl⟩ := hrel
    cases t with
    | nil =>
      have hl1 : len = 1 := by have := HL.out.1; simp at this; omega
      subst hl1
      have hev := ev_any (k : Int) [] [] 0 (.slice none 0 0) w0 HL.out.2 rfl (World.ownsRow_nil _ _ _ _)
      have HD' := HD.out
      rw [fill_nil_nil] at HD'
      have hp : puts { Ev.zero with kind := (k : Int) } [] [] = { Ev.zero with kind := (k : Int) } := rfl
      rw [hp] at hev
      generalize ({ Ev.zero with kind := (k : Int) } : Ev) = p at *
      simp only [arr] at hev
      have HV : Hid (_ ∧ _) := ⟨HD', hev⟩
      clear HD' hev hp
      go_wp2_with fail
      refine Calls.mono HV.out.2 ?_
      rintro r w1 ⟨rfl, hb1⟩
      have hR1 : EvAt w1 w.heap.size Ev.zero := EvAt.below HO.out.1 hb1 hlr
      have hlr1 := hR1.lt
      obtain ⟨t0, t1, t2, t3, t4, t5, t6, t7⟩ := hR1.all
      have hfz := hR1.frozen
      have hfy0 := hfz 0; have hfy1 := hfz 1; have hfy2 := hfz 2; have hfy3 := hfz 3; have hfy4 := hfz 4; have hfy5 := hfz 5; have hfy6 := hfz 6; have hfy7 := hfz 7
      have HB1 : Hid (Below w.heap.size w w1) := HO.out.2.trans (hb1.mono HO.out.2.size)
      clear hfz hR1 hb1 r0 r1 r2 r3 r4 r5 r6 r7 hfz0 hfz1 hfz2 hfz3 hfz4 hfz5 hfz6 hfz7
      go_wp2
      refine bodyPost_ret (v := .tuple #[.agg (arr p), .int .i64 0]) (by simp [results, Try.results16, go_sem, arr, t0, t1, t2, t3, t4, t5, t6, t7]) rfl ⟨by rw [HV.out.1], ?_⟩
      exact ((((((((HB1.out.setCell (Nat.le_refl _) _).setCell (Nat.le_refl _) _).setCell (Nat.le_refl _) _).setCell (Nat.le_refl _) _).setCell (Nat.le_refl _) _).setCell (Nat.le_refl _) _).setCell (Nat.le_refl _) _).setCell (Nat.le_refl _) _)
    | cons x t' =>
      have hl1 : (1 : Int) < (len : Int) := by have := HL.out.1; simp at this; omega
      have HQ : Hid (dec (k :: x :: t') = (Ev.zero, 3)) := by show dec _ = _; rw [HD.out, fill_nil_cons]
      go_wp2
      refine bodyPost_ret (v := .tuple #[.agg (arr Ev.zero), .int .i64 3]) (by simp [results, Try.results16, go_sem, arr_zero, r0, r1, r2, r3, r4, r5, r6, r7]) rfl ⟨by rw [HQ.out], ?_⟩
      exact ((((((((HO.out.2.setCell (Nat.le_refl _) _).setCell (Nat.le_refl _) _).setCell (Nat.le_refl _) _).setCell (Nat.le_refl _) _).setCell (Nat.le_refl _) _).setCell (Nat.le_refl _) _).setCell (Nat.le_refl _) _).setCell (Nat.le_refl _) _)

theorem read_any (v : Value) (l : List Nat) (w : World) (hv : BytesAt w v l) (hx : ∀ x ∈ l, x < 256) (hm : l.length ≤ maxLen) : Calls Try.prog 16 #[v] w (DecPost l w) := by
  obtain ⟨a, cap, rfl, hc, h⟩ := hv
  by_cases h64 : 64 < l.length
  · exact read_long a l.length cap l w rfl h64 hm
  · cases l with
    | nil => exact read_nil a cap w
    | cons k t =>
      rcases h with ⟨_, h⟩ | h | ⟨b, off, rfl, hb, hcell⟩
      · cases h
      · cases h
      · have hc0 : w.cell? ⟨b, off, none⟩ = some (.int .u8 (k : Int)) := by simpa using hcell 0 (by simp)
        have hkb := hx k (List.mem_cons_self ..)
        cases hk : flds (k : Int) with
        | none => exact read_kind b off cap _ k t w rfl (by omega) hk hkb hc0
        | some fs =>
          by_cases hfs : fs = []
          · subst hfs
            exact read_tick b off cap _ k t w rfl (by omega) hk hkb hc0
          · exact read_some b off cap _ k t fs w rfl (by omega) hk hfs hx hcell
end Go.Proofs.Ytcafnliedkhjmaa.Walks
