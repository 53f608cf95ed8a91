/-
  picker.least. Condition: what is read can be read; the loads may be.
-/
import Derived.Test.YtjkiahdeaeiopaaAlong
import Derived.Shelf.SlSortCmp.QuietGrown
import Derived.WalkKit
import Derived.ProofKit
import Derived.Handy
import Derived.LoopTactic
import Derived.Below
import Derived.Laws.BitsAllLaws
import Derived.RegionTactic
import Derived.Deep.RegionHeld3
import Derived.Deep.DrawnRows
import Derived.Deep.AppendLies
import Derived.Laws.OwnMore
import Derived.Deep.Onto
import Derived.Deep.QuietTactic
import Derived.BigQuiet
namespace Go.Proofs.Ytjkiahdeaeiopaa.Walks
open Go.RowKit
set_option linter.unusedVariables false
set_option linter.unusedSimpArgs false
attribute [local go_sem ↓] Go.wp_at_zero Go.wp_at_succ
open Go.Sort (grow grow_empty grow_grow alloc_eq_grow cell?_grow heap_grow_old)

theorem mixed : Try.prog.follows .mixedOrders = true := by kernel_rfl

theorem below_grow (w : World) (q : Nat) (os : Array Obj) : Below w.heap.size w (grow (w.drewN q) os) :=
  ⟨rfl, rfl, rfl, by simp [grow, World.drewN], fun k hk => heap_grow_old (w.drewN q) os hk⟩

set_option maxHeartbeats 2000000 in
theorem isLess_any (x1 x2 x3 y1 y2 y3 : Int) (w : World) (hx : LdOk (x1, x2, x3)) (hy : LdOk (y1, y2, y3)) :
    Calls Try.prog 36 #[.agg #[.int .i64 x1, .int .i64 x2, .int .i64 x3], .agg #[.int .i64 y1, .int .i64 y2, .int .i64 y3]] w fun r w' => r = .returned (.bool (decide (x3 * y2 < y3 * x2))) ∧ ∃ q os, w' = grow (w.drewN q) os := by
  obtain ⟨⟨a1, a2⟩, a3, a4⟩ := hx
  obtain ⟨⟨b1, b2⟩, b3, b4⟩ := hy
  simp only at a1 a2 a3 a4 b1 b2 b3 b4
  have m1 : 0 ≤ x3 * y2 := Int.mul_nonneg a3 b1
  have m2 : x3 * y2 ≤ 40 * 8 := Int.mul_le_mul a4 b2 b1 (by omega)
  have m3 : 0 ≤ y3 * x2 := Int.mul_nonneg b3 a1
  have m4 : y3 * x2 ≤ 40 * 8 := Int.mul_le_mul b4 a2 a1 (by omega)
  clear a1 a2 a3 a4 b1 b2 b3 b4
  go_enter Try.func36, Try.ntmps36
  go_wp2
  go_ret
  refine ⟨rfl, 0, #[.cells #[.int .i64 x1, .int .i64 x2, .int .i64 x3] 37, .cells #[.int .i64 y1, .int .i64 y2, .int .i64 y3] 37], ?_⟩
  rw [alloc_eq_grow, alloc_eq_grow, grow_grow]
  rfl

set_option maxHeartbeats 2000000 in
theorem room_grown (i : Nat) (gl gc : Nat) (v u : Value) (l : List Ld) (m : List Int) (w : World) (he : Env w gl gc v u l m) (hml : m.length = l.length) (hi : i < l.length) :
    Calls Try.prog 24 #[.int .i64 (i : Int), .pointer (some ⟨gl, 0, none⟩), .pointer (some ⟨gc, 0, none⟩)] w fun r w' => r = .returned (.bool (roomB l m i)) ∧ ∃ q os, w' = grow (w.drewN q) os := by
  obtain ⟨h1, h2, hv, hu⟩ := he
  obtain ⟨p, c, rfl, hc, hm, pa⟩ := hv.parts
  obtain ⟨p2, c2, rfl, hc2, hm2, pb⟩ := hu.parts
  obtain ⟨b1, o1, rfl, hb1, _, _, d3⟩ := pa i hi
  obtain ⟨b2, o2, rfl, hb2, d4⟩ := pb i (by omega)
  unfold maxLen at hm hm2
  have e : roomB l m i = decide (l[i].2.2 < m[i]'(by omega)) := by
    unfold roomB
    simp [hi, show i < m.length by omega]
  rw [e]
  generalize l[i].2.2 = f at *
  generalize (m[i]'(by omega)) = cp at *
  have hil : (i : Int) < (l.length : Int) := by omega
  have him : (i : Int) < (m.length : Int) := by omega
  clear e pa pb hv hu hb1 hb2 hml
  go_enter Try.func24, Try.ntmps24
  go_wp2
  go_region
  go_wp2
  go_ret
  exact ⟨rfl, 1, #[], by rw [grow_empty]; rfl⟩

theorem least_no {l : List Ld} {m : List Int} {k : Nat} (h : roomB l m k = false) : leastTo l m (k + 1) = leastTo l m k := by
  rw [leastTo, h]
  rfl

theorem least_first {l : List Ld} {m : List Int} {k : Nat} (h : roomB l m k = true) (h2 : leastTo l m k = none) : leastTo l m (k + 1) = some k := by
  rw [leastTo, h, h2]
  rfl

theorem least_more {l : List Ld} {m : List Int} {k j : Nat} (h : roomB l m k = true) (h2 : leastTo l m k = some j) : leastTo l m (k + 1) = if lessB l k j then some k else some j := by
  rw [leastTo, h, h2]
  rfl

theorem least_lt {l : List Ld} {m : List Int} : ∀ {k j : Nat}, leastTo l m k = some j → j < k
  | 0, j, h => by cases h
  | k + 1, j, h => by
    cases hr : roomB l m k
    · rw [least_no hr] at h
      have := least_lt h
      omega
    · cases ho : leastTo l m k with
      | none =>
        rw [least_first hr ho] at h
        injection h with h
        omega
      | some i =>
        have hi := least_lt ho
        rw [least_more hr ho] at h
        split at h <;> (injection h with h; omega)

set_option maxHeartbeats 4000000 in
set_option maxRecDepth 100000 in
theorem least_any (v u : Value) (l : List Ld) (m : List Int) (gl gc : Nat) (w : World) (he : Env w gl gc v u l m) (hml : m.length = l.length) (hok : ∀ x ∈ l, LdOk x) :
    Calls Try.prog 26 #[v, .func (.func 24) #[] #[.pointer (some ⟨gl, 0, none⟩), .pointer (some ⟨gc, 0, none⟩)]] w fun r w' => r = .returned (.int .i64 (idxOf (leastTo l m l.length))) ∧ Below w.heap.size w w' := by
  have mixed := mixed
  obtain ⟨pv, cv, rfl, hcv, hmv, pa⟩ := he.2.2.1.parts
  unfold maxLen at hmv
  obtain ⟨ans, hans⟩ : ∃ ans, ans = leastTo l m l.length := ⟨_, rfl⟩
  rw [← hans]
  have HE : Hid (_ ∧ _ ∧ _ ∧ _) := ⟨he, hml, pa, hok⟩
  have HA : Hid _ := hans
  clear he hml pa hok hans
  go_enter Try.func26, Try.ntmps26
  go_wp2
  go_loopw [5, 10] (fun f i wr => ∃ (k : Nat), i = .int .i64 k ∧ f = .int .i64 (idxOf (leastTo l m k)) ∧ k ≤ l.length ∧ Below w.heap.size w wr) (fun _ i _ => l.length - (intOf i).toNat)
  case atStart => exact ⟨0, rfl, rfl, Nat.zero_le _, Below.refl _ _⟩
  case round =>
    obtain ⟨k, rfl, rfl, hk, hb⟩ := hrel
    by_cases hlt : k < l.length
    · obtain ⟨b1, o1, rfl, hb1, c1, c2, c3⟩ := HE.out.2.2.1 k hlt
      have hb1w := hb1
      replace c1 := (hb.cell (p := ⟨b1, o1 + k * 3, none⟩) hb1).trans c1
      replace c2 := (hb.cell (p := ⟨b1, o1 + k * 3 + 1, none⟩) hb1).trans c2
      replace c3 := (hb.cell (p := ⟨b1, o1 + k * 3 + 2, none⟩) hb1).trans c3
      have hbl : b1 < wr.heap.size := Nat.lt_of_lt_of_le hb1 hb.size
      have hkI : (k : Int) < (l.length : Int) := by omega
      have hokk := HE.out.2.2.2 l[k] (List.getElem_mem hlt)
      have hgk : l.getD k ld0 = l[k] := by simp [hlt]
      obtain ⟨⟨x1, x2, x3⟩, hx⟩ : ∃ x, x = l[k] := ⟨_, rfl⟩
      rw [← hx] at c1 c2 c3 hokk hgk
      obtain ⟨W1, hW1⟩ : ∃ W1, W1 = wr.alloc (.cells #[.int .i64 x1, .int .i64 x2, .int .i64 x3] 37) := ⟨_, rfl⟩
      have hbW : Below wr.heap.size wr W1 := by rw [hW1]; exact below_newL _
      have hbox : W1.heap[wr.heap.size]? = some (.cells #[.int .i64 x1, .int .i64 x2, .int .i64 x3] 37 (0, 0)) := by rw [hW1]; exact heap_alloc_new _ _
      have hB1 : Below w.heap.size w W1 := hb.trans (hbW.mono hb.size)
      have hlt1 : wr.heap.size < W1.heap.size := (Array.getElem?_eq_some_iff.1 hbox).1
      have k1 : ∀ n os, (grow (W1.drewN n) os).cell? ⟨wr.heap.size, 0, none⟩ = some (.int .i64 x1) := cell_grown hlt1 (by simp [World.cell?, hbox])
      have k2 : ∀ n os, (grow (W1.drewN n) os).cell? ⟨wr.heap.size, 1, none⟩ = some (.int .i64 x2) := cell_grown hlt1 (by simp [World.cell?, hbox])
      have k3 : ∀ n os, (grow (W1.drewN n) os).cell? ⟨wr.heap.size, 2, none⟩ = some (.int .i64 x3) := cell_grown hlt1 (by simp [World.cell?, hbox])
      have HW : Hid (_ ∧ _ ∧ _ ∧ _) := ⟨hW1, hB1, hokk, hgk⟩
      have HR0 : Hid (∀ n os, Calls Try.prog 24 #[.int .i64 (k : Int), .pointer (some ⟨gl, 0, none⟩), .pointer (some ⟨gc, 0, none⟩)] (grow (W1.drewN n) os) fun r w' => r = .returned (.bool (roomB l m k)) ∧ ∃ q' os', w' = grow ((grow (W1.drewN n) os).drewN q') os') :=
        fun n os => room_grown k gl gc _ u l m _ ((HE.out.1.below hB1).below (below_grow W1 n os)) HE.out.2.1 hlt
      clear hx hW1 hbW hbox hB1 hokk hgk hb1
      cases hr : roomB l m k
      · have HR : Hid _ := HR0.out
        rw [hr] at HR
        have HN : Hid (leastTo l m (k + 1) = leastTo l m k) := least_no hr
        obtain ⟨f, hf⟩ : ∃ f, f = idxOf (leastTo l m k) := ⟨_, rfl⟩
        rw [← hf]
        have HF : Hid _ := hf
        clear hf HR0 k1 k2 k3
        go_wp2_with fail
        rw [← HW.out.1]
        refine wp_region_quiet_grown mixed (by kernel_rfl) ?_
        repeat (first | go_big_quiet_skip | quiet_step (first | (go_at_call 24; exact Calls.grown_of (HR.out _ _))))
        refine wpQuiet_nil ?_
        intro _ hw'
        obtain ⟨⟨nq, osq⟩, hw''⟩ := hw'
        subst hw''
        have HB : Hid (Below w.heap.size w (grow (W1.drewN nq) osq)) := HW.out.2.1.trans ((below_grow W1 nq osq).mono HW.out.2.1.size)
        generalize grow (W1.drewN nq) osq = w3 at HB ⊢
        go_wp2
        go_roundw
        case rel => exact ⟨k + 1, by simp, by rw [HN.out, HF.out], hlt, HB.out⟩
        case measure => simp [intOf]; omega
      · have HR : Hid _ := HR0.out
        rw [hr] at HR
        cases ho : leastTo l m k with
        | none =>
          have HN : Hid (leastTo l m (k + 1) = some k) := least_first hr ho
          rw [show idxOf none = -1 from rfl]
          clear HR0 k1 k2 k3 ho
          go_wp2_with fail
          rw [← HW.out.1]
          refine wp_region_quiet_grown mixed (by kernel_rfl) ?_
          repeat (first | go_big_quiet_skip | quiet_step (first | (go_at_call 24; exact Calls.grown_of (HR.out _ _))))
          refine wpQuiet_nil ?_
          intro _ hw'
          obtain ⟨⟨nq, osq⟩, hw''⟩ := hw'
          subst hw''
          have HB : Hid (Below w.heap.size w (grow (W1.drewN nq) osq)) := HW.out.2.1.trans ((below_grow W1 nq osq).mono HW.out.2.1.size)
          generalize grow (W1.drewN nq) osq = w3 at HB ⊢
          go_wp2
          go_roundw
          case rel => exact ⟨k + 1, by simp, by rw [HN.out]; rfl, hlt, HB.out⟩
          case measure => simp [intOf]; omega
        | some j =>
          have hjk := least_lt ho
          have hjl : j < l.length := by omega
          have hN := least_more hr ho
          have hgj : l.getD j ld0 = l[j] := by simp [hjl]
          have hokj := HE.out.2.2.2 l[j] (List.getElem_mem hjl)
          obtain ⟨b2, o2, e2, hb2, d1, d2, d3⟩ := HE.out.2.2.1 j hjl
          injection e2 with e2
          injection e2 with e2 e3
          subst e2 e3
          have hbl1 : b1 < W1.heap.size := Nat.lt_of_lt_of_le hb2 HW.out.2.1.size
          obtain ⟨⟨y1, y2, y3⟩, hy⟩ : ∃ y, y = l[j] := ⟨_, rfl⟩
          rw [← hy] at d1 d2 d3 hgj hokj
          have j1 : ∀ n os, (grow (W1.drewN n) os).cell? ⟨b1, o1 + j * 3, none⟩ = some (.int .i64 y1) := cell_grown hbl1 ((HW.out.2.1.cell (p := ⟨b1, o1 + j * 3, none⟩) hb2).trans d1)
          have j2 : ∀ n os, (grow (W1.drewN n) os).cell? ⟨b1, o1 + j * 3 + 1, none⟩ = some (.int .i64 y2) := cell_grown hbl1 ((HW.out.2.1.cell (p := ⟨b1, o1 + j * 3 + 1, none⟩) hb2).trans d2)
          have j3 : ∀ n os, (grow (W1.drewN n) os).cell? ⟨b1, o1 + j * 3 + 2, none⟩ = some (.int .i64 y3) := cell_grown hbl1 ((HW.out.2.1.cell (p := ⟨b1, o1 + j * 3 + 2, none⟩) hb2).trans d3)
          have HL0 : Hid (∀ W, Calls Try.prog 36 #[.agg #[.int .i64 x1, .int .i64 x2, .int .i64 x3], .agg #[.int .i64 y1, .int .i64 y2, .int .i64 y3]] W fun r w' => r = .returned (.bool (lessB l k j)) ∧ ∃ q os, w' = grow (W.drewN q) os) := fun W => by
            unfold lessB
            rw [HW.out.2.2.2, hgj]
            exact isLess_any x1 x2 x3 y1 y2 y3 W HW.out.2.2.1 hokj
          have HN : Hid _ := hN
          rw [show idxOf (some j) = (j : Int) from rfl]
          have hj0 : (0 : Int) ≤ (j : Int) := by omega
          have hj1 : (j : Int) < (l.length : Int) := by omega
          clear hgj hokj hy d1 d2 d3 hb2 hb1w hN ho HR0
          cases hs : lessB l k j
          · rw [hs] at HN HL0
            have HN' : Hid (leastTo l m (k + 1) = some j) := HN.out
            clear HN
            go_wp2_with fail
            rw [← HW.out.1]
            refine wp_region_quiet_grown mixed (by kernel_rfl) ?_
            repeat (first | go_big_quiet_skip | quiet_step (first | (go_at_call 24; exact Calls.grown_of (HR.out _ _)) | (go_at_call 36; exact Calls.grown_of (HL0.out _))))
            refine wpQuiet_nil ?_
            intro _ hw'
            obtain ⟨⟨nq, osq⟩, hw''⟩ := hw'
            subst hw''
            have HB : Hid (Below w.heap.size w (grow (W1.drewN nq) osq)) := HW.out.2.1.trans ((below_grow W1 nq osq).mono HW.out.2.1.size)
            generalize grow (W1.drewN nq) osq = w3 at HB ⊢
            clear k1 k2 k3 j1 j2 j3
            go_wp2
            go_roundw
            case rel => exact ⟨k + 1, by simp, by rw [HN'.out]; rfl, hlt, HB.out⟩
            case measure => simp [intOf]; omega
          · rw [hs] at HN HL0
            have HN' : Hid (leastTo l m (k + 1) = some k) := HN.out
            clear HN
            go_wp2_with fail
            rw [← HW.out.1]
            refine wp_region_quiet_grown mixed (by kernel_rfl) ?_
            repeat (first | go_big_quiet_skip | quiet_step (first | (go_at_call 24; exact Calls.grown_of (HR.out _ _)) | (go_at_call 36; exact Calls.grown_of (HL0.out _))))
            refine wpQuiet_nil ?_
            intro _ hw'
            obtain ⟨⟨nq, osq⟩, hw''⟩ := hw'
            subst hw''
            have HB : Hid (Below w.heap.size w (grow (W1.drewN nq) osq)) := HW.out.2.1.trans ((below_grow W1 nq osq).mono HW.out.2.1.size)
            generalize grow (W1.drewN nq) osq = w3 at HB ⊢
            clear k1 k2 k3 j1 j2 j3
            go_wp2
            go_roundw
            case rel => exact ⟨k + 1, by simp, by rw [HN'.out]; rfl, hlt, HB.out⟩
            case measure => simp [intOf]; omega
    · obtain rfl : k = l.length := by omega
      rw [← HA.out]
      have HB : Hid _ := hb
      clear hb
      go_wp2
      go_ret
      exact ⟨rfl, HB.out⟩
end Go.Proofs.Ytjkiahdeaeiopaa.Walks
