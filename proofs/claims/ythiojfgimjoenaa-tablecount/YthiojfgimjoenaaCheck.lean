/-
  Slots that may be; table.Check. Condition: the slots can be read.
-/
import Derived.Test.YthiojfgimjoenaaSlots
import Derived.WalkKit
import Derived.ProofKit
import Derived.Handy
import Derived.LoopTactic
import Derived.Below
import Derived.Laws.BitsAllLaws
import Derived.RegionTactic
import Derived.Deep.RegionHeld3
import Derived.Deep.DrawnRows
import Derived.Deep.AppendLies
import Derived.Laws.OwnMore
import Derived.Deep.Onto
import Derived.Deep.QuietTactic
import Derived.BigQuiet
namespace Go.Proofs.Ythiojfgimjoenaa.Walks
open Go.RowKit
set_option linter.unusedVariables false
set_option linter.unusedSimpArgs false
attribute [local go_sem ↓] Go.wp_at_zero Go.wp_at_succ

abbrev Free (t : Sl) : Prop := t.2.1 = false ∧ t.2.2.1 = 0 ∧ t.2.2.2 = 0

abbrev isKeyP (n : Int) : Prop := 0 ≤ n ∧ n ≤ 4294967295
abbrev isBeP (n : Int) : Prop := 0 ≤ n ∧ n < 12

abbrev SlotOk (t : Sl) : Prop := if t.2.1 = true then (0 ≤ t.1 ∧ t.1 ≤ 1048575) ∧ isKeyP t.2.2.1 ∧ isBeP t.2.2.2 else (0 ≤ t.1 ∧ t.1 ≤ 1048576) ∧ t.2.2.1 = 0 ∧ t.2.2.2 = 0

theorem free4 (g : Int) (u : Bool) (k b : Int) : (u = false ∧ k = 0 ∧ b = 0) ∨ u = true ∨ (u = false ∧ (k == 0) = false) ∨ (u = false ∧ k = 0 ∧ (b == 0) = false) := by
  cases u
  · by_cases h : k = 0
    · by_cases h2 : b = 0
      · exact .inl ⟨rfl, h, h2⟩
      · exact .inr (.inr (.inr ⟨rfl, h, by simpa using h2⟩))
    · exact .inr (.inr (.inl ⟨rfl, by simpa using h⟩))
  · exact .inr (.inl rfl)

theorem below_newC (w : World) {o : Obj} : Below w.heap.size w (w.alloc o) := (Below.refl _ _).alloc (Nat.le_refl _) _

set_option maxHeartbeats 1000000 in
theorem isFree_any (g : Int) (u : Bool) (k b : Int) (w : World) :
    Calls Try.prog 27 #[.agg #[.int .i64 g, .bool u, .int .i64 k, .int .i64 b]] w fun r w' => r = .returned (.bool (decide (Free (g, u, k, b)))) ∧ Below w.heap.size w w' := by
  rcases free4 g u k b with ⟨rfl, rfl, rfl⟩ | rfl | ⟨rfl, h⟩ | ⟨rfl, rfl, h⟩
  · have e : decide (Free (g, false, 0, 0)) = true := decide_eq_true ⟨rfl, rfl, rfl⟩
    rw [e]
    clear e
    go_enter Try.func27, Try.ntmps27
    go_wp2
    go_ret
    exact ⟨rfl, below_newC w⟩
  · have e : decide (Free (g, true, k, b)) = false := decide_eq_false fun h => by cases h.1
    rw [e]
    clear e
    go_enter Try.func27, Try.ntmps27
    go_wp2
    go_ret
    exact ⟨rfl, below_newC w⟩
  · have e : decide (Free (g, false, k, b)) = false := decide_eq_false fun h2 => by have := h2.2.1; simp at this; simp [this] at h
    rw [e]
    clear e
    go_enter Try.func27, Try.ntmps27
    go_wp2
    go_ret
    exact ⟨rfl, below_newC w⟩
  · have e : decide (Free (g, false, 0, b)) = false := decide_eq_false fun h2 => by have := h2.2.2; simp at this; simp [this] at h
    rw [e]
    clear e
    go_enter Try.func27, Try.ntmps27
    go_wp2
    go_ret
    exact ⟨rfl, below_newC w⟩

theorem isKey_any (n : Int) (w : World) : Calls Try.prog 28 #[.int .i64 n] w fun r w' => r = .returned (.bool (decide (isKeyP n))) ∧ w' = w := by
  obtain ⟨ans, hans⟩ : ∃ ans, ans = decide (isKeyP n) := ⟨_, rfl⟩
  rw [← hans]
  have H : Hid _ := hans
  clear hans
  cases h1 : decide (0 ≤ n)
  · have E : Hid (ans = false) := by rw [H.out]; exact decide_eq_false fun g => of_decide_eq_false h1 g.1
    go_enter Try.func28, Try.ntmps28
    go_wp2
    go_ret
    exact ⟨by rw [E.out]; rfl, rfl⟩
  cases h2 : decide (n ≤ 4294967295)
  · have E : Hid (ans = false) := by rw [H.out]; exact decide_eq_false fun g => of_decide_eq_false h2 g.2
    go_enter Try.func28, Try.ntmps28
    go_wp2
    go_ret
    exact ⟨by rw [E.out]; rfl, rfl⟩
  · have E : Hid (ans = true) := by rw [H.out]; exact decide_eq_true ⟨of_decide_eq_true h1, of_decide_eq_true h2⟩
    go_enter Try.func28, Try.ntmps28
    go_wp2
    go_ret
    exact ⟨by rw [E.out]; rfl, rfl⟩

theorem isBackend_any (n : Int) (w : World) : Calls Try.prog 29 #[.int .i64 n] w fun r w' => r = .returned (.bool (decide (isBeP n))) ∧ w' = w := by
  obtain ⟨ans, hans⟩ : ∃ ans, ans = decide (isBeP n) := ⟨_, rfl⟩
  rw [← hans]
  have H : Hid _ := hans
  clear hans
  cases h1 : decide (0 ≤ n)
  · have E : Hid (ans = false) := by rw [H.out]; exact decide_eq_false fun g => of_decide_eq_false h1 g.1
    go_enter Try.func29, Try.ntmps29
    go_wp2
    go_ret
    exact ⟨by rw [E.out]; rfl, rfl⟩
  cases h2 : decide (n < 12)
  · have E : Hid (ans = false) := by rw [H.out]; exact decide_eq_false fun g => of_decide_eq_false h2 g.2
    go_enter Try.func29, Try.ntmps29
    go_wp2
    go_ret
    exact ⟨by rw [E.out]; rfl, rfl⟩
  · have E : Hid (ans = true) := by rw [H.out]; exact decide_eq_true ⟨of_decide_eq_true h1, of_decide_eq_true h2⟩
    go_enter Try.func29, Try.ntmps29
    go_wp2
    go_ret
    exact ⟨by rw [E.out]; rfl, rfl⟩

theorem bad_cases (g : Int) (u : Bool) (k b : Int) : let ans := decide (¬ SlotOk (g, u, k, b))
    (g < 0 ∧ ans = true) ∨ (0 ≤ g ∧ 1048576 < g ∧ ans = true) ∨ (0 ≤ g ∧ g ≤ 1048576 ∧ Free (g, u, k, b) ∧ ans = false) ∨
    (0 ≤ g ∧ g ≤ 1048576 ∧ ¬ Free (g, u, k, b) ∧ (u = false ∧ ans = true ∨ u = true ∧ ((g == 1048576) = true ∧ ans = true ∨ (g == 1048576) = false ∧ (¬ isKeyP k ∧ ans = true ∨ isKeyP k ∧ ans = decide (¬ isBeP b))))) := by
  intro ans
  by_cases h1 : g < 0
  · refine .inl ⟨h1, decide_eq_true fun h => ?_⟩
    unfold SlotOk at h
    split at h <;> simp at h <;> omega
  by_cases h2 : 1048576 < g
  · refine .inr (.inl ⟨by omega, h2, decide_eq_true fun h => ?_⟩)
    unfold SlotOk at h
    split at h <;> simp at h <;> omega
  by_cases h3 : Free (g, u, k, b)
  · refine .inr (.inr (.inl ⟨by omega, by omega, h3, decide_eq_false fun h => h ?_⟩))
    obtain ⟨e1, e2, e3⟩ := h3
    unfold SlotOk
    rw [e1, if_neg (by simp)]
    exact ⟨⟨by simp; omega, by simp; omega⟩, e2, e3⟩
  refine .inr (.inr (.inr ⟨by omega, by omega, h3, ?_⟩))
  cases u
  · refine .inl ⟨rfl, decide_eq_true fun h => h3 ?_⟩
    unfold SlotOk at h
    simp at h
    exact ⟨rfl, h.2⟩
  refine .inr ⟨rfl, ?_⟩
  by_cases h4 : g = 1048576
  · refine .inl ⟨by simp [h4], decide_eq_true fun h => ?_⟩
    unfold SlotOk at h
    simp at h
    omega
  refine .inr ⟨by simpa using h4, ?_⟩
  by_cases h5 : isKeyP k
  · refine .inr ⟨h5, ?_⟩
    refine decide_eq_decide.2 ⟨fun h hb => h ?_, fun h h' => h ?_⟩
    · unfold SlotOk
      rw [if_pos rfl]
      exact ⟨⟨by simp; omega, by simp; omega⟩, h5, hb⟩
    · unfold SlotOk at h'
      rw [if_pos rfl] at h'
      exact h'.2.2
  · refine .inl ⟨h5, decide_eq_true fun h => h5 ?_⟩
    unfold SlotOk at h
    rw [if_pos rfl] at h
    exact h.2.1

set_option maxHeartbeats 2000000 in
theorem mayNotBe_any (g : Int) (u : Bool) (k b : Int) (w : World) :
    Calls Try.prog 34 #[.agg #[.int .i64 g, .bool u, .int .i64 k, .int .i64 b]] w fun r w' => r = .returned (.bool (decide (¬ SlotOk (g, u, k, b)))) ∧ Below w.heap.size w w' := by
  have hc := bad_cases g u k b
  revert hc
  generalize decide (¬ SlotOk (g, u, k, b)) = ans
  intro hc
  rcases hc with ⟨h1, rfl⟩ | ⟨h1, h2, rfl⟩ | ⟨h1, h2, h3, rfl⟩ | ⟨h1, h2, h3, hc⟩
  · go_enter Try.func34, Try.ntmps34
    go_wp2
    go_ret
    exact ⟨rfl, below_newC w⟩
  · go_enter Try.func34, Try.ntmps34
    go_wp2
    go_ret
    exact ⟨rfl, below_newC w⟩
  · have HF : Hid _ := decide_eq_true h3
    clear h3
    go_enter Try.func34, Try.ntmps34
    go_wp2_with fail
    refine (isFree_any g u k b _).mono ?_
    rw [HF.out]
    rintro r w1 ⟨rfl, hb1⟩
    have HB : Hid _ := (below_newC w).trans (hb1.mono (by simp))
    clear hb1
    go_wp2
    go_ret
    exact ⟨rfl, HB.out⟩
  · have HF : Hid _ := decide_eq_false h3
    clear h3
    obtain ⟨W0, hW0⟩ : ∃ W0, W0 = w.alloc (.cells #[.int .i64 g, .bool u, .int .i64 k, .int .i64 b] 44) := ⟨_, rfl⟩
    have hR : W0.heap[w.heap.size]? = some (.cells #[.int .i64 g, .bool u, .int .i64 k, .int .i64 b] 44 (0, 0)) := by rw [hW0]; exact heap_alloc_new _ _
    have hB0 : Below w.heap.size w W0 := by rw [hW0]; exact below_newC w
    go_enter Try.func34, Try.ntmps34
    go_wp2_with fail
    rw [← hW0]
    refine (isFree_any g u k b _).mono ?_
    rw [HF.out]
    rintro r w1 ⟨rfl, hb1⟩
    have hR1 := box_below hR hb1
    have HB : Hid _ := hB0.trans (hb1.mono hB0.size)
    have c0 : w1.cell? ⟨w.heap.size, 0, none⟩ = some (.int .i64 g) := by simp [World.cell?, hR1]
    have c1 : w1.cell? ⟨w.heap.size, 1, none⟩ = some (.bool u) := by simp [World.cell?, hR1]
    have c2 : w1.cell? ⟨w.heap.size, 2, none⟩ = some (.int .i64 k) := by simp [World.cell?, hR1]
    have c3 : w1.cell? ⟨w.heap.size, 3, none⟩ = some (.int .i64 b) := by simp [World.cell?, hR1]
    clear hb1 hR hR1 hB0 hW0
    rcases hc with ⟨rfl, rfl⟩ | ⟨rfl, ⟨h4, rfl⟩ | ⟨h4, ⟨h5, rfl⟩ | ⟨h5, hd⟩⟩⟩
    · go_wp2
      go_ret
      exact ⟨rfl, HB.out⟩
    · go_wp2
      go_ret
      exact ⟨rfl, HB.out⟩
    · have HK : Hid _ := decide_eq_false h5
      clear h5
      go_wp2_with fail
      refine (isKey_any _ _).mono ?_
      rw [HK.out]
      rintro r w2 ⟨rfl, rfl⟩
      go_wp2
      go_ret
      exact ⟨rfl, HB.out⟩
    · have HK : Hid _ := decide_eq_true h5
      have HD : Hid (ans = !(decide (isBeP b))) := hd.trans decide_not
      clear h5 hd
      go_wp2_with fail
      refine (isKey_any _ _).mono ?_
      rw [HK.out]
      rintro r w2 ⟨rfl, rfl⟩
      go_wp2_with fail
      refine (isBackend_any _ _).mono ?_
      generalize decide (isBeP b) = bb at *
      rintro r w2 ⟨rfl, rfl⟩
      go_wp2
      go_ret
      exact ⟨by rw [HD.out]; rfl, HB.out⟩

/-- The first of which a test says true. -/
def find (q : Sl → Bool) : List Sl → Option Nat
  | [] => none
  | t :: l => if q t then some 0 else (find q l).map (· + 1)

theorem find_none {q : Sl → Bool} : ∀ {l : List Sl}, (∀ t ∈ l, q t = false) → find q l = none
  | [], _ => rfl
  | t :: l, h => by
    unfold find
    rw [h t (by simp), find_none (l := l) fun x hx => h x (by simp [hx])]
    rfl

theorem find_some {q : Sl → Bool} : ∀ {l : List Sl} {k : Nat} (hk : k < l.length), (∀ t ∈ l.take k, q t = false) → q l[k] = true → find q l = some k
  | t :: l, 0, _, _, h => by
    unfold find
    rw [if_pos (by simpa using h)]
  | t :: l, k + 1, hk, h1, h2 => by
    unfold find
    rw [if_neg (by rw [h1 t (by simp)]; simp), find_some (l := l) (k := k) (by simpa using hk) (fun x hx => h1 x (by simp [hx])) (by simpa using h2)]
    rfl

def idxOf : Option Nat → Int
  | none => -1
  | some k => k

def badB (t : Sl) : Bool := decide (¬ SlotOk t)

set_option maxHeartbeats 2000000 in
theorem index_bad (v : Value) (l : List Sl) (w : World) (hv : SlAt w v l) :
    Calls Try.prog 30 #[v, .func (.func 34) #[] #[]] w fun r w' => r = .returned (.int .i64 (idxOf (find badB l))) ∧ Below w.heap.size w w' := by
  obtain ⟨q, hq0⟩ : ∃ q, q = badB := ⟨_, rfl⟩
  obtain ⟨a, ca, rfl, hca, hma, pa⟩ := hv.parts
  unfold maxLen at hma
  have HQ : Hid (∀ (g : Int) (u : Bool) (k b : Int) (W : World), Calls Try.prog 34 #[.agg #[.int .i64 g, .bool u, .int .i64 k, .int .i64 b]] W fun r w' => r = .returned (.bool (q (g, u, k, b))) ∧ Below W.heap.size W w') := by rw [hq0]; exact fun g u k b W => mayNotBe_any g u k b W
  rw [← hq0]
  obtain ⟨ans, hans⟩ : ∃ ans, ans = idxOf (find q l) := ⟨_, rfl⟩
  rw [← hans]
  have H : Hid _ := hans
  clear hv hans hq0
  go_enter Try.func30, Try.ntmps30
  go_wp2
  go_loopw [8] (fun i wr => ∃ k : Nat, i = .int .i64 k ∧ k ≤ l.length ∧ (∀ t ∈ l.take k, q t = false) ∧ Below w.heap.size w wr) (fun i _ => l.length - (intOf i).toNat)
  case atStart => exact ⟨0, rfl, Nat.zero_le _, by simp, Below.refl _ _⟩
  case round =>
    obtain ⟨k, rfl, hk, hall, hbr⟩ := hrel
    by_cases hlt : k < l.length
    · obtain ⟨b1, o1, rfl, hb1, c1, c2, c3, c4⟩ := pa k hlt
      have e1 := (hbr.cell (p := ⟨b1, o1 + k * 4, none⟩) hb1).trans c1
      have e2 := (hbr.cell (p := ⟨b1, o1 + k * 4 + 1, none⟩) hb1).trans c2
      have e3 := (hbr.cell (p := ⟨b1, o1 + k * 4 + 2, none⟩) hb1).trans c3
      have e4 := (hbr.cell (p := ⟨b1, o1 + k * 4 + 3, none⟩) hb1).trans c4
      have HA : Hid (_ ∧ _) := ⟨hall, hbr⟩
      have hkI : (k : Int) < (l.length : Int) := by omega
      have htk : l.take (k + 1) = l.take k ++ [l[k]] := List.take_succ_eq_append_getElem hlt
      have hfs : q l[k] = true → find q l = some k := fun h => find_some hlt hall h
      have hxk : ∃ x, x = l[k] := ⟨_, rfl⟩
      obtain ⟨⟨x1, x2, x3, x4⟩, hxk⟩ := hxk
      rw [← hxk] at e1 e2 e3 e4 htk hfs
      have HX : Hid (_ ∧ _) := ⟨htk, hfs⟩
      clear hall hbr c1 c2 c3 c4 hb1 pa htk hfs hxk
      cases hd : q (x1, x2, x3, x4)
      · go_wp2_with fail
        refine (HQ.out x1 x2 x3 x4 _).mono ?_
        rw [hd]
        rintro r w2 ⟨rfl, hb2⟩
        have H2 : Hid _ := hb2
        clear hb2
        go_wp2
        go_roundw
        case rel =>
          refine ⟨k + 1, by simp, hlt, fun t ht => ?_, HA.out.2.trans (H2.out.mono HA.out.2.size)⟩
          rw [HX.out.1] at ht
          rcases List.mem_append.1 ht with ht | ht
          · exact HA.out.1 t ht
          · simp at ht
            rw [ht]
            exact hd
        case measure => simp [intOf]; omega
      · go_wp2_with fail
        refine (HQ.out x1 x2 x3 x4 _).mono ?_
        rw [hd]
        rintro r w2 ⟨rfl, hb2⟩
        have HE : Hid (ans = (k : Int)) := by show ans = _; rw [H.out, HX.out.2 hd]; rfl
        have H2 : Hid _ := hb2
        clear hb2
        go_wp2
        go_ret
        exact ⟨by rw [HE.out]; rfl, HA.out.2.trans (H2.out.mono HA.out.2.size)⟩
    · have HE : Hid (ans = -1) := by
        show ans = _
        rw [H.out, find_none fun t ht => hall t (by rw [List.take_of_length_le (by omega)]; exact ht)]
        rfl
      have HB : Hid _ := hbr
      clear hall hbr pa
      go_wp2
      go_ret
      exact ⟨by rw [HE.out]; rfl, HB.out⟩

/-- Free, and with a handle to give. -/
def openB (t : Sl) : Bool := decide (Free t) && (t.1 != 1048576)

set_option maxHeartbeats 1000000 in
theorem open_any (g : Int) (u : Bool) (k b : Int) (w : World) :
    Calls Try.prog 31 #[.agg #[.int .i64 g, .bool u, .int .i64 k, .int .i64 b]] w fun r w' => r = .returned (.bool (openB (g, u, k, b))) ∧ Below w.heap.size w w' := by
  have ho : openB (g, u, k, b) = (decide (Free (g, u, k, b)) && (g != 1048576)) := rfl
  obtain ⟨ans, hans⟩ : ∃ ans, ans = openB (g, u, k, b) := ⟨_, rfl⟩
  rw [← hans]
  rw [← hans] at ho
  have H : Hid _ := ho
  obtain ⟨W0, hW0⟩ : ∃ W0, W0 = w.alloc (.cells #[.int .i64 g, .bool u, .int .i64 k, .int .i64 b] 44) := ⟨_, rfl⟩
  have hR : W0.heap[w.heap.size]? = some (.cells #[.int .i64 g, .bool u, .int .i64 k, .int .i64 b] 44 (0, 0)) := by rw [hW0]; exact heap_alloc_new _ _
  have hB0 : Below w.heap.size w W0 := by rw [hW0]; exact below_newC w
  have H0 : Hid (_ ∧ _ ∧ _) := ⟨hW0, hR, hB0⟩
  clear hans ho hW0 hR hB0
  go_enter Try.func31, Try.ntmps31
  go_wp2_with fail
  rw [← H0.out.1]
  refine (isFree_any g u k b _).mono ?_
  generalize decide (Free (g, u, k, b)) = fr at *
  rintro r w1 ⟨rfl, hb1⟩
  have hR1 := box_below H0.out.2.1 hb1
  have c0 : w1.cell? ⟨w.heap.size, 0, none⟩ = some (.int .i64 g) := by simp [World.cell?, hR1]
  have HB : Hid _ := H0.out.2.2.trans (hb1.mono H0.out.2.2.size)
  clear hb1 hR1
  cases fr
  · go_wp2
    go_ret
    exact ⟨by rw [H.out]; rfl, HB.out⟩
  · go_wp2
    go_ret
    exact ⟨by rw [H.out]; rfl, HB.out⟩

set_option maxHeartbeats 2000000 in
theorem index_open (v : Value) (l : List Sl) (w : World) (hv : SlAt w v l) :
    Calls Try.prog 30 #[v, .func (.func 31) #[] #[]] w fun r w' => r = .returned (.int .i64 (idxOf (find openB l))) ∧ Below w.heap.size w w' := by
  obtain ⟨q, hq0⟩ : ∃ q, q = openB := ⟨_, rfl⟩
  obtain ⟨a, ca, rfl, hca, hma, pa⟩ := hv.parts
  unfold maxLen at hma
  have HQ : Hid (∀ (g : Int) (u : Bool) (k b : Int) (W : World), Calls Try.prog 31 #[.agg #[.int .i64 g, .bool u, .int .i64 k, .int .i64 b]] W fun r w' => r = .returned (.bool (q (g, u, k, b))) ∧ Below W.heap.size W w') := by rw [hq0]; exact fun g u k b W => open_any g u k b W
  rw [← hq0]
  obtain ⟨ans, hans⟩ : ∃ ans, ans = idxOf (find q l) := ⟨_, rfl⟩
  rw [← hans]
  have H : Hid _ := hans
  clear hv hans hq0
  go_enter Try.func30, Try.ntmps30
  go_wp2
  go_loopw [8] (fun i wr => ∃ k : Nat, i = .int .i64 k ∧ k ≤ l.length ∧ (∀ t ∈ l.take k, q t = false) ∧ Below w.heap.size w wr) (fun i _ => l.length - (intOf i).toNat)
  case atStart => exact ⟨0, rfl, Nat.zero_le _, by simp, Below.refl _ _⟩
  case round =>
    obtain ⟨k, rfl, hk, hall, hbr⟩ := hrel
    by_cases hlt : k < l.length
    · obtain ⟨b1, o1, rfl, hb1, c1, c2, c3, c4⟩ := pa k hlt
      have e1 := (hbr.cell (p := ⟨b1, o1 + k * 4, none⟩) hb1).trans c1
      have e2 := (hbr.cell (p := ⟨b1, o1 + k * 4 + 1, none⟩) hb1).trans c2
      have e3 := (hbr.cell (p := ⟨b1, o1 + k * 4 + 2, none⟩) hb1).trans c3
      have e4 := (hbr.cell (p := ⟨b1, o1 + k * 4 + 3, none⟩) hb1).trans c4
      have HA : Hid (_ ∧ _) := ⟨hall, hbr⟩
      have hkI : (k : Int) < (l.length : Int) := by omega
      have htk : l.take (k + 1) = l.take k ++ [l[k]] := List.take_succ_eq_append_getElem hlt
      have hfs : q l[k] = true → find q l = some k := fun h => find_some hlt hall h
      have hxk : ∃ x, x = l[k] := ⟨_, rfl⟩
      obtain ⟨⟨x1, x2, x3, x4⟩, hxk⟩ := hxk
      rw [← hxk] at e1 e2 e3 e4 htk hfs
      have HX : Hid (_ ∧ _) := ⟨htk, hfs⟩
      clear hall hbr c1 c2 c3 c4 hb1 pa htk hfs hxk
      cases hd : q (x1, x2, x3, x4)
      · go_wp2_with fail
        refine (HQ.out x1 x2 x3 x4 _).mono ?_
        rw [hd]
        rintro r w2 ⟨rfl, hb2⟩
        have H2 : Hid _ := hb2
        clear hb2
        go_wp2
        go_roundw
        case rel =>
          refine ⟨k + 1, by simp, hlt, fun t ht => ?_, HA.out.2.trans (H2.out.mono HA.out.2.size)⟩
          rw [HX.out.1] at ht
          rcases List.mem_append.1 ht with ht | ht
          · exact HA.out.1 t ht
          · simp at ht
            rw [ht]
            exact hd
        case measure => simp [intOf]; omega
      · go_wp2_with fail
        refine (HQ.out x1 x2 x3 x4 _).mono ?_
        rw [hd]
        rintro r w2 ⟨rfl, hb2⟩
        have HE : Hid (ans = (k : Int)) := by show ans = _; rw [H.out, HX.out.2 hd]; rfl
        have H2 : Hid _ := hb2
        clear hb2
        go_wp2
        go_ret
        exact ⟨by rw [HE.out]; rfl, HA.out.2.trans (H2.out.mono HA.out.2.size)⟩
    · have HE : Hid (ans = -1) := by
        show ans = _
        rw [H.out, find_none fun t ht => hall t (by rw [List.take_of_length_le (by omega)]; exact ht)]
        rfl
      have HB : Hid _ := hbr
      clear hall hbr pa
      go_wp2
      go_ret
      exact ⟨by rw [HE.out]; rfl, HB.out⟩

theorem find_pos {q : Sl → Bool} : ∀ {l : List Sl}, (0 ≤ idxOf (find q l)) ↔ ∃ t ∈ l, q t = true
  | [] => by simp [find, idxOf]
  | t :: l => by
    unfold find
    have ih := find_pos (q := q) (l := l)
    by_cases h : q t = true
    · rw [if_pos h]
      exact ⟨fun _ => ⟨t, by simp, h⟩, fun _ => by show (0 : Int) ≤ ((0 : Nat) : Int); omega⟩
    · rw [if_neg h]
      constructor
      · intro h1
        cases hf : find q l with
        | none => rw [hf] at h1; simp [idxOf] at h1
        | some k =>
          obtain ⟨x, hx, hy⟩ := ih.1 (by rw [hf]; show (0 : Int) ≤ (k : Int); omega)
          exact ⟨x, by simp [hx], hy⟩
      · rintro ⟨x, hx, hy⟩
        rcases List.mem_cons.1 hx with rfl | hx
        · exact absurd hy h
        · have := ih.2 ⟨x, hx, hy⟩
          cases hf : find q l with
          | none => rw [hf] at this; simp [idxOf] at this
          | some k => show (0 : Int) ≤ ((k + 1 : Nat) : Int); omega

theorem contains_any (v : Value) (l : List Sl) (w : World) (hv : SlAt w v l) :
    Calls Try.prog 33 #[v, .func (.func 34) #[] #[]] w fun r w' => r = .returned (.bool (decide (¬ ∀ t ∈ l, SlotOk t))) ∧ Below w.heap.size w w' := by
  have HV : Hid _ := hv
  have hd : decide (¬ ∀ t ∈ l, SlotOk t) = decide (0 ≤ idxOf (find badB l)) := by
    refine decide_eq_decide.2 ?_
    rw [find_pos]
    constructor
    · intro h
      refine Classical.byContradiction fun hn => h fun t ht => Classical.byContradiction fun ht2 => hn ⟨t, ht, decide_eq_true ht2⟩
    · rintro ⟨t, ht, h⟩ hall
      exact of_decide_eq_true h (hall t ht)
  rw [hd]
  obtain ⟨ix, hix⟩ : ∃ ix, ix = idxOf (find badB l) := ⟨_, rfl⟩
  rw [← hix]
  have HI : Hid _ := hix
  clear hd hv hix
  go_enter Try.func33, Try.ntmps33
  go_wp2_with fail
  refine (index_bad v l w HV.out).mono ?_
  rw [← HI.out]
  rintro r w1 ⟨rfl, hb⟩
  have HB : Hid _ := hb
  clear hb
  go_wp2
  go_ret
  exact ⟨rfl, HB.out⟩

abbrev TabOk (l : List Sl) : Prop := (1 ≤ l.length ∧ l.length ≤ 40) ∧ ∀ t ∈ l, SlotOk t

set_option maxHeartbeats 1000000 in
theorem check_any (v : Value) (l : List Sl) (w : World) (hv : SlAt w v l) :
    Calls Try.prog 20 #[.agg #[v]] w fun r w' => r = .returned (.int .i64 (if TabOk l then 0 else 6)) ∧ Below w.heap.size w w' := by
  obtain ⟨ans, hans⟩ : ∃ ans : Int, ans = if TabOk l then 0 else 6 := ⟨_, rfl⟩
  rw [← hans]
  have H : Hid _ := hans
  clear hans
  obtain ⟨p, c, rfl, hc, hm, _⟩ := hv.parts
  unfold maxLen at hm
  have HV : Hid _ := hv
  clear hv
  cases h1 : decide ((l.length : Int) < 1)
  case true =>
    have E : Hid (ans = 6) := by
      show ans = 6
      rw [H.out, if_neg fun h => by have := h.1.1; have := of_decide_eq_true h1; omega]
    go_enter Try.func20, Try.ntmps20
    go_wp2
    go_ret
    exact ⟨by rw [E.out]; rfl, below_newC w⟩
  cases h2 : decide (40 < (l.length : Int))
  case true =>
    have E : Hid (ans = 6) := by
      show ans = 6
      rw [H.out, if_neg fun h => by have := h.1.2; have := of_decide_eq_true h2; omega]
    go_enter Try.func20, Try.ntmps20
    go_wp2
    go_ret
    exact ⟨by rw [E.out]; rfl, below_newC w⟩
  obtain ⟨bad, hbad⟩ : ∃ bad, bad = decide (¬ ∀ t ∈ l, SlotOk t) := ⟨_, rfl⟩
  have E : Hid (ans = if bad then 6 else 0) := by
    show ans = _
    rw [H.out, hbad]
    have e1 := of_decide_eq_false h1
    have e2 := of_decide_eq_false h2
    by_cases h : ∀ t ∈ l, SlotOk t
    · rw [if_pos ⟨⟨by omega, by omega⟩, h⟩, decide_eq_false (by simpa using h)]
      rfl
    · rw [if_neg fun h' => h h'.2, decide_eq_true h]
      rfl
  have HD : Hid _ := hbad
  clear hbad H
  go_enter Try.func20, Try.ntmps20
  go_wp2_with fail
  refine (contains_any _ l _ (HV.out.below (below_newC w))).mono ?_
  rw [← HD.out]
  rintro r w1 ⟨rfl, hb⟩
  have HB : Hid _ := (below_newC w).trans (hb.mono (by simp))
  clear hb HD
  cases bad
  · go_wp2
    go_ret
    exact ⟨by rw [E.out]; rfl, HB.out⟩
  · go_wp2
    go_ret
    exact ⟨by rw [E.out]; rfl, HB.out⟩
end Go.Proofs.Ythiojfgimjoenaa.Walks
