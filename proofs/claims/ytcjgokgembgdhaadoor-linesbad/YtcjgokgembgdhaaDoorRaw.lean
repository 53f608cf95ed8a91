/-
  The events that may come, of raw numbers: what the statements' own Event answers, and that Check finds nothing wrong with it. Condition: the raw numbers fit an int.
-/
import Derived.Test.YtcjgokgembgdhaaDoorRows
import Derived.Test.YtcjgokgembgdhaaDoorChecked
import Derived.Test.YtcjgokgembgdhaaDoorCheck
import Derived.Deep.QuietTactic
import Derived.BigQuiet
import Derived.WalkKit
import Derived.ProofKit
import Derived.Handy
import Derived.LoopTactic
import Derived.Below
import Derived.Laws.BitsAllLaws
import Derived.RegionTactic
import Derived.Deep.RegionHeld3
import Derived.Deep.DrawnRows
import Derived.Deep.AppendLies
import Derived.Laws.OwnMore
import Derived.Deep.Onto
namespace Go.Proofs.YtcjgokgembgdhaaDoor.Walks
open Go.RowKit
open Go.Proofs.YtcjgokgembgdhaaDoor.Plain
set_option linter.unusedVariables false
attribute [local go_sem ↓] Go.wp_at_zero Go.wp_at_succ

def pick (n : Int) (many : Nat) : Nat := (if n < 0 then (-(n + 1)).toNat else n.toNat) % many
theorem pick_lt (n : Int) (many : Nat) (h : 0 < many) : pick n many < many := Nat.mod_lt _ h
theorem pick_neg (n many : Int) (h : n < 0) (h2 : 0 < many) : -(n + 1).tmod many = ((pick n many.toNat : Nat) : Int) := by
  obtain ⟨m, rfl⟩ := Int.eq_ofNat_of_zero_le (Int.le_of_lt h2)
  obtain ⟨k, hk⟩ := Int.eq_ofNat_of_zero_le (a := -(n + 1)) (by omega)
  unfold pick
  rw [if_pos h, ← Int.neg_tmod, hk, Int.toNat_natCast, Int.toNat_natCast, Int.natCast_emod]
  rfl
theorem pick_pos (n many : Int) (h : 0 ≤ n) (h2 : 0 < many) : n % many = ((pick n many.toNat : Nat) : Int) := by
  obtain ⟨m, rfl⟩ := Int.eq_ofNat_of_zero_le (Int.le_of_lt h2)
  obtain ⟨k, rfl⟩ := Int.eq_ofNat_of_zero_le h
  unfold pick
  rw [if_neg (by omega), Int.toNat_natCast, Int.toNat_natCast, Int.natCast_emod]


theorem ret_int {k : IntKind} {a b : Int} (h : a = b) : Ending.returned (.int k a) = .returned (.int k b) := by rw [h]

set_option maxHeartbeats 400000 in
theorem picked_any (n many : Int) (w : World) (h0 : -9223372036854775808 ≤ n) (h1 : n ≤ 9223372036854775807) (h2 : 0 < many) (h3 : many ≤ 9223372036854775807) : Calls Tryd.prog 16 #[.int .i64 n, .int .i64 many] w fun e w' => e = .returned (.int .i64 ((pick n many.toNat : Nat) : Int)) ∧ w' = w := by
  by_cases h : n < 0
  · go_enter Tryd.func16, Tryd.ntmps16
    go_wp2
    go_ret
    exact ⟨ret_int (pick_neg n many h h2), rfl⟩
  · have h' : 0 ≤ n := by omega
    clear h
    go_enter Tryd.func16, Tryd.ntmps16
    go_wp2
    go_ret
    exact ⟨ret_int (pick_pos n many h' h2), rfl⟩

/-- A number that fits an int. -/
def Fits (n : Int) : Prop := -9223372036854775808 ≤ n ∧ n ≤ 9223372036854775807

theorem picked_is (n many : Int) (q : Nat) (w : World) (hf : Fits n) (hq : pick n many.toNat = q) (h2 : 0 < many) (h3 : many ≤ 9223372036854775807) : Calls Tryd.prog 16 #[.int .i64 n, .int .i64 many] w fun e w' => e = .returned (.int .i64 (q : Int)) ∧ w' = w := by
  subst hq; exact picked_any n many w hf.1 hf.2 h2 h3

/-- The event that may come, of raw numbers. -/
def raw (x y z u : Int) : Ev :=
  match pick x 7 with
  | 0 => { Ev.zero with kind := 1, key := (pick y 4294967296 : Nat) }
  | 1 => { Ev.zero with kind := 2, slot := (pick y 40 : Nat), gen := (pick z 1048577 : Nat) }
  | 2 => { Ev.zero with kind := 3, slot := (pick y 40 : Nat), gen := (pick z 1048577 : Nat) }
  | 3 => { Ev.zero with kind := 4, slot := (pick y 40 : Nat), gen := (pick z 1048577 : Nat), good := ((pick u 2 : Nat) : Int) == 1 }
  | 4 => { Ev.zero with kind := 5, req := (pick y 1048577 : Nat), be := (pick z 12 : Nat), wt := 1 + (pick u 8 : Nat) }
  | 5 => { Ev.zero with kind := 6, req := (pick y 1048577 : Nat), be := (pick z 12 : Nat) }
  | _ => { Ev.zero with kind := 7 }

theorem raw_ok (x y z u : Int) : fault (raw x y z u) = 0 := by
  have h1 := pick_lt y 4294967296 (by omega)
  have h2 := pick_lt y 40 (by omega)
  have h3 := pick_lt z 1048577 (by omega)
  have h4 := pick_lt u 2 (by omega)
  have h5 := pick_lt y 1048577 (by omega)
  have h6 := pick_lt z 12 (by omega)
  have h7 := pick_lt u 8 (by omega)
  unfold raw
  split
  · generalize pick y 4294967296 = a at *
    simp [fault, flds, Ev.within, Ev.num, Ev.clean, Ev.clear, Ev.put, Ev.zero]; omega
  · generalize pick y 40 = a at *; generalize pick z 1048577 = b at *
    simp [fault, flds, Ev.within, Ev.num, Ev.clean, Ev.clear, Ev.put, Ev.zero]; omega
  · generalize pick y 40 = a at *; generalize pick z 1048577 = b at *
    simp [fault, flds, Ev.within, Ev.num, Ev.clean, Ev.clear, Ev.put, Ev.zero]; omega
  · generalize pick y 40 = a at *; generalize pick z 1048577 = b at *; generalize pick u 2 = c at *
    obtain rfl | rfl : c = 0 ∨ c = 1 := by omega
    all_goals (simp [fault, flds, Ev.within, Ev.num, Ev.clean, Ev.clear, Ev.put, Ev.zero]; omega)
  · generalize pick y 1048577 = a at *; generalize pick z 12 = b at *; generalize pick u 8 = c at *
    simp [fault, flds, Ev.within, Ev.num, Ev.clean, Ev.clear, Ev.put, Ev.zero]; omega
  · generalize pick y 1048577 = a at *; generalize pick z 12 = b at *
    simp [fault, flds, Ev.within, Ev.num, Ev.clean, Ev.clear, Ev.put, Ev.zero]; omega
  · simp [fault, flds, Ev.clean, Ev.clear, Ev.zero]


set_option maxHeartbeats 1000000 in
theorem event1 (x y z u : Int) (w : World) (hx : Fits x) (hy : Fits y) (hz : Fits z) (hu : Fits u) (h : pick x 7 = 0) :
    Calls Tryd.prog 15 #[.agg #[.int .i64 x, .int .i64 y, .int .i64 z, .int .i64 u]] w fun r w' => r = .returned (.agg (arr (raw x y z u))) ∧ Below w.heap.size w w' := by
  obtain ⟨p, hp⟩ : ∃ p, pick y 4294967296 = p := ⟨_, rfl⟩
  have hv : arr (raw x y z u) = #[.int .i64 1, .int .i64 (p : Int), .int .i64 0, .int .i64 0, .bool false, .int .i64 0, .int .i64 0, .int .i64 0] := by simp [raw, h, hp, arr, Ev.zero]
  rw [hv]
  have HP : Hid (_ ∧ _ ∧ _ ∧ _ ∧ _ ∧ _) := ⟨hx, hy, hz, hu, h, hp⟩
  clear hx hy hz hu h hp hv
  go_enter Tryd.func15, Tryd.ntmps15
  go_wp2_with fail
  refine (picked_is x 7 0 _ HP.out.1 HP.out.2.2.2.2.1 (by omega) (by omega)).mono ?_
  rintro r w1 ⟨rfl, rfl⟩
  go_wp2_with fail
  refine (picked_is y 4294967296 p _ HP.out.2.1 HP.out.2.2.2.2.2 (by omega) (by omega)).mono ?_
  rintro r w1 ⟨rfl, rfl⟩
  go_wp2
  refine bodyPost_ret (v := .agg #[.int .i64 1, .int .i64 (p : Int), .int .i64 0, .int .i64 0, .bool false, .int .i64 0, .int .i64 0, .int .i64 0]) (by simp [results, Tryd.results15, go_sem]) rfl ⟨rfl, ?_⟩
  exact (((Below.refl _ _).alloc (Nat.le_refl _) _).alloc (by simp) _).alloc (by simp; omega) _

set_option maxHeartbeats 1000000 in
theorem event2 (x y z u : Int) (w : World) (hx : Fits x) (hy : Fits y) (hz : Fits z) (hu : Fits u) (h : pick x 7 = 1) :
    Calls Tryd.prog 15 #[.agg #[.int .i64 x, .int .i64 y, .int .i64 z, .int .i64 u]] w fun r w' => r = .returned (.agg (arr (raw x y z u))) ∧ Below w.heap.size w w' := by
  obtain ⟨p, hp⟩ : ∃ p, pick y 40 = p := ⟨_, rfl⟩
  obtain ⟨q, hq⟩ : ∃ q, pick z 1048577 = q := ⟨_, rfl⟩
  have hv : arr (raw x y z u) = #[.int .i64 2, .int .i64 0, .int .i64 (p : Int), .int .i64 (q : Int), .bool false, .int .i64 0, .int .i64 0, .int .i64 0] := by simp [raw, h, hp, hq, arr, Ev.zero]
  rw [hv]
  have HP : Hid (_ ∧ _ ∧ _ ∧ _ ∧ _ ∧ _ ∧ _) := ⟨hx, hy, hz, hu, h, hp, hq⟩
  clear hx hy hz hu h hp hq hv
  go_enter Tryd.func15, Tryd.ntmps15
  go_wp2_with fail
  refine (picked_is x 7 1 _ HP.out.1 HP.out.2.2.2.2.1 (by omega) (by omega)).mono ?_
  rintro r w1 ⟨rfl, rfl⟩
  go_wp2_with fail
  refine (picked_is y 40 p _ HP.out.2.1 HP.out.2.2.2.2.2.1 (by omega) (by omega)).mono ?_
  rintro r w1 ⟨rfl, rfl⟩
  go_wp2_with fail
  refine (picked_is z 1048577 q _ HP.out.2.2.1 HP.out.2.2.2.2.2.2 (by omega) (by omega)).mono ?_
  rintro r w1 ⟨rfl, rfl⟩
  go_wp2
  refine bodyPost_ret (v := .agg #[.int .i64 2, .int .i64 0, .int .i64 (p : Int), .int .i64 (q : Int), .bool false, .int .i64 0, .int .i64 0, .int .i64 0]) (by simp [results, Tryd.results15, go_sem]) rfl ⟨rfl, ?_⟩
  exact (((Below.refl _ _).alloc (Nat.le_refl _) _).alloc (by simp) _).alloc (by simp; omega) _

set_option maxHeartbeats 1000000 in
theorem event3 (x y z u : Int) (w : World) (hx : Fits x) (hy : Fits y) (hz : Fits z) (hu : Fits u) (h : pick x 7 = 2) :
    Calls Tryd.prog 15 #[.agg #[.int .i64 x, .int .i64 y, .int .i64 z, .int .i64 u]] w fun r w' => r = .returned (.agg (arr (raw x y z u))) ∧ Below w.heap.size w w' := by
  obtain ⟨p, hp⟩ : ∃ p, pick y 40 = p := ⟨_, rfl⟩
  obtain ⟨q, hq⟩ : ∃ q, pick z 1048577 = q := ⟨_, rfl⟩
  have hv : arr (raw x y z u) = #[.int .i64 3, .int .i64 0, .int .i64 (p : Int), .int .i64 (q : Int), .bool false, .int .i64 0, .int .i64 0, .int .i64 0] := by simp [raw, h, hp, hq, arr, Ev.zero]
  rw [hv]
  have HP : Hid (_ ∧ _ ∧ _ ∧ _ ∧ _ ∧ _ ∧ _) := ⟨hx, hy, hz, hu, h, hp, hq⟩
  clear hx hy hz hu h hp hq hv
  go_enter Tryd.func15, Tryd.ntmps15
  go_wp2_with fail
  refine (picked_is x 7 2 _ HP.out.1 HP.out.2.2.2.2.1 (by omega) (by omega)).mono ?_
  rintro r w1 ⟨rfl, rfl⟩
  go_wp2_with fail
  refine (picked_is y 40 p _ HP.out.2.1 HP.out.2.2.2.2.2.1 (by omega) (by omega)).mono ?_
  rintro r w1 ⟨rfl, rfl⟩
  go_wp2_with fail
  refine (picked_is z 1048577 q _ HP.out.2.2.1 HP.out.2.2.2.2.2.2 (by omega) (by omega)).mono ?_
  rintro r w1 ⟨rfl, rfl⟩
  go_wp2
  refine bodyPost_ret (v := .agg #[.int .i64 3, .int .i64 0, .int .i64 (p : Int), .int .i64 (q : Int), .bool false, .int .i64 0, .int .i64 0, .int .i64 0]) (by simp [results, Tryd.results15, go_sem]) rfl ⟨rfl, ?_⟩
  exact (((Below.refl _ _).alloc (Nat.le_refl _) _).alloc (by simp) _).alloc (by simp; omega) _

set_option maxHeartbeats 1000000 in
theorem event4 (x y z u : Int) (w : World) (hx : Fits x) (hy : Fits y) (hz : Fits z) (hu : Fits u) (h : pick x 7 = 3) :
    Calls Tryd.prog 15 #[.agg #[.int .i64 x, .int .i64 y, .int .i64 z, .int .i64 u]] w fun r w' => r = .returned (.agg (arr (raw x y z u))) ∧ Below w.heap.size w w' := by
  obtain ⟨p, hp⟩ : ∃ p, pick y 40 = p := ⟨_, rfl⟩
  obtain ⟨q, hq⟩ : ∃ q, pick z 1048577 = q := ⟨_, rfl⟩
  obtain ⟨s, hs⟩ : ∃ s, pick u 2 = s := ⟨_, rfl⟩
  have hv : arr (raw x y z u) = #[.int .i64 4, .int .i64 0, .int .i64 (p : Int), .int .i64 (q : Int), .bool ((s : Int) == 1), .int .i64 0, .int .i64 0, .int .i64 0] := by simp [raw, h, hp, hq, hs, arr, Ev.zero]
  rw [hv]
  have HP : Hid (_ ∧ _ ∧ _ ∧ _ ∧ _ ∧ _ ∧ _ ∧ _) := ⟨hx, hy, hz, hu, h, hp, hq, hs⟩
  clear hx hy hz hu h hp hq hs hv
  go_enter Tryd.func15, Tryd.ntmps15
  go_wp2_with fail
  refine (picked_is x 7 3 _ HP.out.1 HP.out.2.2.2.2.1 (by omega) (by omega)).mono ?_
  rintro r w1 ⟨rfl, rfl⟩
  go_wp2_with fail
  refine (picked_is y 40 p _ HP.out.2.1 HP.out.2.2.2.2.2.1 (by omega) (by omega)).mono ?_
  rintro r w1 ⟨rfl, rfl⟩
  go_wp2_with fail
  refine (picked_is z 1048577 q _ HP.out.2.2.1 HP.out.2.2.2.2.2.2.1 (by omega) (by omega)).mono ?_
  rintro r w1 ⟨rfl, rfl⟩
  go_wp2_with fail
  refine (picked_is u 2 s _ HP.out.2.2.2.1 HP.out.2.2.2.2.2.2.2 (by omega) (by omega)).mono ?_
  rintro r w1 ⟨rfl, rfl⟩
  go_wp2
  refine bodyPost_ret (v := .agg #[.int .i64 4, .int .i64 0, .int .i64 (p : Int), .int .i64 (q : Int), .bool ((s : Int) == 1), .int .i64 0, .int .i64 0, .int .i64 0]) (by simp [results, Tryd.results15, go_sem]) rfl ⟨rfl, ?_⟩
  exact (((Below.refl _ _).alloc (Nat.le_refl _) _).alloc (by simp) _).alloc (by simp; omega) _

set_option maxHeartbeats 1000000 in
theorem event5 (x y z u : Int) (w : World) (hx : Fits x) (hy : Fits y) (hz : Fits z) (hu : Fits u) (h : pick x 7 = 4) :
    Calls Tryd.prog 15 #[.agg #[.int .i64 x, .int .i64 y, .int .i64 z, .int .i64 u]] w fun r w' => r = .returned (.agg (arr (raw x y z u))) ∧ Below w.heap.size w w' := by
  obtain ⟨p, hp⟩ : ∃ p, pick y 1048577 = p := ⟨_, rfl⟩
  obtain ⟨q, hq⟩ : ∃ q, pick z 12 = q := ⟨_, rfl⟩
  obtain ⟨s, hs⟩ : ∃ s, pick u 8 = s := ⟨_, rfl⟩
  have hbs : s < 8 := by rw [← hs]; exact pick_lt _ _ (by omega)
  have hv : arr (raw x y z u) = #[.int .i64 5, .int .i64 0, .int .i64 0, .int .i64 0, .bool false, .int .i64 (p : Int), .int .i64 (q : Int), .int .i64 (1 + (s : Int))] := by simp [raw, h, hp, hq, hs, arr, Ev.zero]
  rw [hv]
  have HP : Hid (_ ∧ _ ∧ _ ∧ _ ∧ _ ∧ _ ∧ _ ∧ _) := ⟨hx, hy, hz, hu, h, hp, hq, hs⟩
  clear hx hy hz hu h hp hq hs hv
  go_enter Tryd.func15, Tryd.ntmps15
  go_wp2_with fail
  refine (picked_is x 7 4 _ HP.out.1 HP.out.2.2.2.2.1 (by omega) (by omega)).mono ?_
  rintro r w1 ⟨rfl, rfl⟩
  go_wp2_with fail
  refine (picked_is y 1048577 p _ HP.out.2.1 HP.out.2.2.2.2.2.1 (by omega) (by omega)).mono ?_
  rintro r w1 ⟨rfl, rfl⟩
  go_wp2_with fail
  refine (picked_is z 12 q _ HP.out.2.2.1 HP.out.2.2.2.2.2.2.1 (by omega) (by omega)).mono ?_
  rintro r w1 ⟨rfl, rfl⟩
  go_wp2_with fail
  refine (picked_is u 8 s _ HP.out.2.2.2.1 HP.out.2.2.2.2.2.2.2 (by omega) (by omega)).mono ?_
  rintro r w1 ⟨rfl, rfl⟩
  go_wp2
  refine bodyPost_ret (v := .agg #[.int .i64 5, .int .i64 0, .int .i64 0, .int .i64 0, .bool false, .int .i64 (p : Int), .int .i64 (q : Int), .int .i64 (1 + (s : Int))]) (by simp [results, Tryd.results15, go_sem]) rfl ⟨rfl, ?_⟩
  exact (((Below.refl _ _).alloc (Nat.le_refl _) _).alloc (by simp) _).alloc (by simp; omega) _

set_option maxHeartbeats 1000000 in
theorem event6 (x y z u : Int) (w : World) (hx : Fits x) (hy : Fits y) (hz : Fits z) (hu : Fits u) (h : pick x 7 = 5) :
    Calls Tryd.prog 15 #[.agg #[.int .i64 x, .int .i64 y, .int .i64 z, .int .i64 u]] w fun r w' => r = .returned (.agg (arr (raw x y z u))) ∧ Below w.heap.size w w' := by
  obtain ⟨p, hp⟩ : ∃ p, pick y 1048577 = p := ⟨_, rfl⟩
  obtain ⟨q, hq⟩ : ∃ q, pick z 12 = q := ⟨_, rfl⟩
  have hv : arr (raw x y z u) = #[.int .i64 6, .int .i64 0, .int .i64 0, .int .i64 0, .bool false, .int .i64 (p : Int), .int .i64 (q : Int), .int .i64 0] := by simp [raw, h, hp, hq, arr, Ev.zero]
  rw [hv]
  have HP : Hid (_ ∧ _ ∧ _ ∧ _ ∧ _ ∧ _ ∧ _) := ⟨hx, hy, hz, hu, h, hp, hq⟩
  clear hx hy hz hu h hp hq hv
  go_enter Tryd.func15, Tryd.ntmps15
  go_wp2_with fail
  refine (picked_is x 7 5 _ HP.out.1 HP.out.2.2.2.2.1 (by omega) (by omega)).mono ?_
  rintro r w1 ⟨rfl, rfl⟩
  go_wp2_with fail
  refine (picked_is y 1048577 p _ HP.out.2.1 HP.out.2.2.2.2.2.1 (by omega) (by omega)).mono ?_
  rintro r w1 ⟨rfl, rfl⟩
  go_wp2_with fail
  refine (picked_is z 12 q _ HP.out.2.2.1 HP.out.2.2.2.2.2.2 (by omega) (by omega)).mono ?_
  rintro r w1 ⟨rfl, rfl⟩
  go_wp2
  refine bodyPost_ret (v := .agg #[.int .i64 6, .int .i64 0, .int .i64 0, .int .i64 0, .bool false, .int .i64 (p : Int), .int .i64 (q : Int), .int .i64 0]) (by simp [results, Tryd.results15, go_sem]) rfl ⟨rfl, ?_⟩
  exact (((Below.refl _ _).alloc (Nat.le_refl _) _).alloc (by simp) _).alloc (by simp; omega) _

set_option maxHeartbeats 1000000 in
theorem event7 (x y z u : Int) (w : World) (hx : Fits x) (hy : Fits y) (hz : Fits z) (hu : Fits u) (h : pick x 7 = 6) :
    Calls Tryd.prog 15 #[.agg #[.int .i64 x, .int .i64 y, .int .i64 z, .int .i64 u]] w fun r w' => r = .returned (.agg (arr (raw x y z u))) ∧ Below w.heap.size w w' := by
  have hv : arr (raw x y z u) = #[.int .i64 7, .int .i64 0, .int .i64 0, .int .i64 0, .bool false, .int .i64 0, .int .i64 0, .int .i64 0] := by simp [raw, h, arr, Ev.zero]
  rw [hv]
  have HP : Hid (_ ∧ _ ∧ _ ∧ _ ∧ _) := ⟨hx, hy, hz, hu, h⟩
  clear hx hy hz hu h  hv
  go_enter Tryd.func15, Tryd.ntmps15
  go_wp2_with fail
  refine (picked_is x 7 6 _ HP.out.1 HP.out.2.2.2.2 (by omega) (by omega)).mono ?_
  rintro r w1 ⟨rfl, rfl⟩
  go_wp2
  refine bodyPost_ret (v := .agg #[.int .i64 7, .int .i64 0, .int .i64 0, .int .i64 0, .bool false, .int .i64 0, .int .i64 0, .int .i64 0]) (by simp [results, Tryd.results15, go_sem]) rfl ⟨rfl, ?_⟩
  exact (((Below.refl _ _).alloc (Nat.le_refl _) _).alloc (by simp) _).alloc (by simp; omega) _

theorem event_any (x y z u : Int) (w : World) (hx : Fits x) (hy : Fits y) (hz : Fits z) (hu : Fits u) :
    Calls Tryd.prog 15 #[.agg #[.int .i64 x, .int .i64 y, .int .i64 z, .int .i64 u]] w fun r w' => r = .returned (.agg (arr (raw x y z u))) ∧ Below w.heap.size w w' := by
  have h := pick_lt x 7 (by omega)
  obtain h | h | h | h | h | h | h : pick x 7 = 0 ∨ pick x 7 = 1 ∨ pick x 7 = 2 ∨ pick x 7 = 3 ∨ pick x 7 = 4 ∨ pick x 7 = 5 ∨ pick x 7 = 6 := by omega
  · exact event1 x y z u w hx hy hz hu h
  · exact event2 x y z u w hx hy hz hu h
  · exact event3 x y z u w hx hy hz hu h
  · exact event4 x y z u w hx hy hz hu h
  · exact event5 x y z u w hx hy hz hu h
  · exact event6 x y z u w hx hy hz hu h
  · exact event7 x y z u w hx hy hz hu h

theorem fits_of {n : Int} (h : (Lit.int .i64 n).wf = true) : Fits n := by
  simp [Lit.wf, IntKind.min, IntKind.max, IntKind.signed, IntKind.bits] at h
  unfold Fits; omega
end Go.Proofs.YtcjgokgembgdhaaDoor.Walks
