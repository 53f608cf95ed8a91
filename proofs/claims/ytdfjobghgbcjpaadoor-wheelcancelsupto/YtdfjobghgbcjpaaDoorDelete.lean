/-
  slices.DeleteFunc at a row of timers that the call owns, with a closure that asks for one number: what has another number is left. There is one that goes.
-/
import Derived.Test.YtdfjobghgbcjpaaDoorAdv
import Derived.WalkKit
import Derived.ProofKit
import Derived.Handy
import Derived.LoopTactic
import Derived.Below
import Derived.Laws.BitsAllLaws
import Derived.RegionTactic
import Derived.Deep.RegionHeld3
import Derived.Deep.DrawnRows
import Derived.Deep.AppendLies
import Derived.Laws.OwnMore
import Derived.Deep.Onto
import Derived.Deep.QuietTactic
import Derived.BigQuiet
namespace Go.Proofs.YtdfjobghgbcjpaaDoor.Walks
open Go.RowKit
set_option linter.unusedVariables false
set_option linter.unusedSimpArgs false
attribute [local go_sem ↓] Go.wp_at_zero Go.wp_at_succ

/-- What is left. -/
def kp (l : List Tm) (id : Int) : List Tm := l.filter fun t => decide (t.2 ≠ id)

theorem kp_snoc (l : List Tm) (t : Tm) (id : Int) : kp (l ++ [t]) id = kp l id ++ if t.2 = id then [] else [t] := by
  unfold kp
  rw [List.filter_append]
  by_cases h : t.2 = id <;> simp [h]
theorem kp_len (l : List Tm) (id : Int) : (kp l id).length ≤ l.length := List.length_filter_le _ _
theorem kp_all {l : List Tm} {id : Int} (h : ∀ t ∈ l, t.2 ≠ id) : kp l id = l := List.filter_eq_self.2 fun t ht => by simpa using h t ht

set_option maxHeartbeats 1000000 in
theorem del_any (a b id : Int) (g : Nat) (w : World) (h : w.cell? ⟨g, 0, none⟩ = some (.int .i64 id)) :
    Calls Tryd.prog 38 #[.agg #[.int .i64 a, .int .i64 b], .pointer (some ⟨g, 0, none⟩)] w fun r w' => r = .returned (.bool (decide (b = id))) ∧ w' = w.alloc (.cells #[.int .i64 a, .int .i64 b] 45) := by
  have hlt : g < w.heap.size := World.block_lt_of_cell? w ⟨g, 0, none⟩ h
  by_cases hb : b = id
  · subst hb
    go_enter Tryd.func38, Tryd.ntmps38
    go_wp2
    go_ret
    exact ⟨by simp, rfl⟩
  · have he : (b == id) = false := by simpa using hb
    have hd : decide (b = id) = false := decide_eq_false hb
    rw [hd]
    clear hb
    go_enter Tryd.func38, Tryd.ntmps38
    go_wp2
    go_ret
    exact ⟨rfl, rfl⟩

set_option maxHeartbeats 2000000 in
theorem index_any (v : Value) (l : List Tm) (id : Int) (g : Nat) (w : World) (hv : TmAt w v l) (h : w.cell? ⟨g, 0, none⟩ = some (.int .i64 id)) (hex : ∃ t ∈ l, t.2 = id) :
    Calls Tryd.prog 46 #[v, .func (.func 38) #[] #[.pointer (some ⟨g, 0, none⟩)]] w fun r w' => ∃ (k : Nat) (hk : k < l.length), r = .returned (.int .i64 k) ∧ l[k].2 = id ∧ (∀ t ∈ l.take k, t.2 ≠ id) ∧ Below w.heap.size w w' := by
  obtain ⟨a, ca, rfl, hca, hma, pa⟩ := hv.parts
  unfold maxLen at hma
  have hglt := World.block_lt_of_cell? w ⟨g, 0, none⟩ h
  have HH : Hid (_ ∧ _) := ⟨h, hex⟩
  clear h hex hv
  go_enter Tryd.func46, Tryd.ntmps46
  go_wp2
  go_loopw [8] (fun i wr => ∃ k : Nat, i = .int .i64 k ∧ k ≤ l.length ∧ (∀ t ∈ l.take k, t.2 ≠ id) ∧ Below w.heap.size w wr) (fun i _ => l.length - (intOf i).toNat)
  case atStart => exact ⟨0, rfl, Nat.zero_le _, by simp, Below.refl _ _⟩
  case round =>
    obtain ⟨k, rfl, hk, hall, hbr⟩ := hrel
    by_cases hlt : k < l.length
    · obtain ⟨b1, o1, rfl, hb1, c1, d1⟩ := pa k hlt
      have e1 := (hbr.cell (p := ⟨b1, o1 + k * 2, none⟩) hb1).trans c1
      have e2 := (hbr.cell (p := ⟨b1, o1 + k * 2 + 1, none⟩) hb1).trans d1
      have e3 := (hbr.cell (p := ⟨g, 0, none⟩) hglt).trans HH.out.1
      have HA : Hid (_ ∧ _ ∧ _) := ⟨hall, hbr, e3⟩
      have hkI : (k : Int) < (l.length : Int) := by omega
      have htk : l.take (k + 1) = l.take k ++ [l[k]] := List.take_succ_eq_append_getElem hlt
      obtain ⟨xa, hxa⟩ : ∃ xa, xa = l[k].1 := ⟨_, rfl⟩
      obtain ⟨xd, hxd⟩ : ∃ xd, xd = l[k].2 := ⟨_, rfl⟩
      rw [← hxa] at e1
      rw [← hxd] at e2
      have HX : Hid (_ ∧ _) := ⟨htk, hxd⟩
      clear hall hbr c1 d1 hb1 htk hxa hxd e3 pa
      cases hd : decide (xd = id)
      · go_wp2_with fail
        refine (del_any xa xd id g _ HA.out.2.2).mono ?_
        rw [hd]
        rintro r w2 ⟨rfl, rfl⟩
        go_wp2
        go_roundw
        case rel =>
          refine ⟨k + 1, by simp, hlt, fun t ht => ?_, HA.out.2.1.alloc HA.out.2.1.size _⟩
          rw [HX.out.1] at ht
          rcases List.mem_append.1 ht with ht | ht
          · exact HA.out.1 t ht
          · rw [List.mem_singleton.1 ht, ← HX.out.2]
            exact of_decide_eq_false hd
        case measure => simp [intOf]; omega
      · go_wp2_with fail
        refine (del_any xa xd id g _ HA.out.2.2).mono ?_
        rw [hd]
        rintro r w2 ⟨rfl, rfl⟩
        go_wp2
        go_ret
        exact ⟨k, hlt, rfl, by rw [← HX.out.2]; exact of_decide_eq_true hd, HA.out.1, HA.out.2.1.alloc HA.out.2.1.size _⟩
    · exfalso
      obtain ⟨t, ht, e⟩ := HH.out.2
      exact hall t (by rw [List.take_of_length_le (by omega)]; exact ht) e

theorem owns_cut {w : World} {base g n cap size i : Nat} {e : TypeId} {xs : List Value} (h : w.ownsRow base e size (.slice (some ⟨g, 0, none⟩) n cap) n xs) (hi : i ≤ n) : w.ownsRow base e size (.slice (some ⟨g, 0, none⟩) i cap) i (xs.take (i * size)) := by
  rcases h.2 with ⟨h', _⟩ | ⟨g', cap', cur, h', hb, hg, hnc, hcm, hcs, htake⟩
  · simp at h'
  · simp only [Value.slice.injEq, Option.some.injEq, Addr.mk.injEq, and_true, true_and] at h'
    obtain ⟨rfl, rfl⟩ := h'
    have hle := Nat.mul_le_mul_right size hi
    refine ⟨by rw [List.length_take, h.1]; omega, .inr ⟨g, cap, cur, rfl, hb, hg, by omega, hcm, hcs, ?_⟩⟩
    rw [← htake, List.take_take, Nat.min_eq_left hle]

theorem owns_past {base g n cap size : Nat} {e : TypeId} {xs : List Value} : ∀ (vs : List Value) (o : Nat) (w : World), w.ownsRow base e size (.slice (some ⟨g, 0, none⟩) n cap) n xs → n * size ≤ o → (w.setCells g o vs).ownsRow base e size (.slice (some ⟨g, 0, none⟩) n cap) n xs ∧ w.grownBy (w.setCells g o vs) (some g)
  | [], o, w, h, _ => ⟨h, World.grownBy.refl _ _⟩
  | v :: vs, o, w, h, ho => by
    have h1 := h.stored o v
    rw [List.set_eq_of_length_le (by rw [h.1]; exact ho)] at h1
    have h2 := owns_past vs (o + 1) _ h1.1 (by omega)
    rw [World.setCells]
    exact ⟨h2.1, ⟨h2.2.os.trans h1.2.os, h2.2.tape.trans h1.2.tape, h2.2.output.trans h1.2.output, Nat.le_trans h1.2.size h2.2.size, fun k hk hne => (h2.2.block k (Nat.lt_of_lt_of_le hk h1.2.size) hne).trans (h1.2.block k hk hne)⟩⟩

/-- 'clear' of what stands behind the first i. -/
theorem run_clear_two {P : Program} (w : World) (t e ty : TypeId) (a b : Value) (ht : P.underlying t = some (.slice e)) (hv : ∀ w, (zeroValue e).run P w = .ok (.agg #[a, b]) w) (h1 : a.oneCell' = true) (h2 : b.oneCell' = true) (g o n c : Nat) (hn : 0 < n)
    (hc : ∀ j, j < n * 2 → (w.cell? ⟨g, o + j, none⟩).isSome = true) (hf : ∀ j, j < n * 2 → w.frozen? ⟨g, o + j, none⟩ = false) :
    ∃ vs, (Builtin.clear_ #[t] ty #[.slice (some ⟨g, o, none⟩) n c]).run P w = .ok (.tuple #[]) (w.setCells g o vs) := by
  have hl : (Builtin.zeroCells #[a, b] n).toList.length = n * 2 := by rw [Array.length_toList, size_zeroCells]; rfl
  have hone : ∀ v ∈ (Builtin.zeroCells #[a, b] n).toList, v.oneCell' = true := by
    intro v hv
    simp only [Builtin.zeroCells, Array.toList_map, List.mem_map] at hv
    obtain ⟨i, _, rfl⟩ := hv
    have : i % (#[a, b] : Array Value).size < 2 := Nat.mod_lt _ (by simp)
    have hcase : i % (#[a, b] : Array Value).size = 0 ∨ i % (#[a, b] : Array Value).size = 1 := by omega
    rcases hcase with e | e <;> rw [e]
    · exact h1
    · exact h2
  have hst := run_storeCells_cells (P := P) g o (Builtin.zeroCells #[a, b] n).toList 0 w (by rw [hl]; simpa using hc) (by rw [hl]; simpa using hf) hone
  simp only [Nat.add_zero] at hst
  refine ⟨(Builtin.zeroCells #[a, b] n).toList, ?_⟩
  obtain ⟨m, rfl⟩ : ∃ m, n = m + 1 := ⟨n - 1, by omega⟩
  simp [Builtin.clear_, run_underlying ht, hv, Value.cells, hst]
end Go.Proofs.YtdfjobghgbcjpaaDoor.Walks
