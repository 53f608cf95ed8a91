/-
  The document's line of an event that may come. No condition beside that.
-/
import Derived.Test.YtkefdbnnfcfmjaaDoorRfL
import Derived.WalkKit
import Derived.ProofKit
import Derived.Handy
import Derived.LoopTactic
import Derived.Below
import Derived.Laws.BitsAllLaws
import Derived.RegionTactic
import Derived.Deep.RegionHeld3
import Derived.Deep.DrawnRows
import Derived.Deep.AppendLies
import Derived.Laws.OwnMore
import Derived.Deep.Onto
import Derived.Deep.QuietTactic
import Derived.BigQuiet
namespace Go.Proofs.YtkefdbnnfcfmjaaDoor.Walks
open Go.RowKit
open Go.Proofs.YtkefdbnnfcfmjaaDoor.Plain
set_option linter.unusedVariables false
set_option linter.unusedSimpArgs false
attribute [local go_sem ↓] Go.wp_at_zero Go.wp_at_succ

theorem fld_offs {e : Ev} (h : fault e = 0) : ∃ fs : List Fld, flds e.kind = some fs ∧ fs.length ≤ 3 ∧ (offs e.kind).length ≤ fs.length ∧ (∀ k : Nat, k < fs.length → (k < (offs e.kind).length ∨ (e.kind = 4 ∧ k = 2))) ∧ (e.kind = 4 → (offs e.kind).length = 2) ∧ (∀ k : Nat, k < (offs e.kind).length → ∃ f : Fld, fs[k]? = some f ∧ (offs e.kind)[k]? = some f.off) := by
  obtain ⟨fs, hf, _, _⟩ := fault_zero h
  refine ⟨fs, hf, flds_len hf, ?_⟩
  rcases flds_cases e.kind with ⟨_, h'⟩ | h' | h' | h' | h' | h' | h' | h'
  · rw [h'] at hf; cases hf
  all_goals
    rw [h'] at hf ⊢
    simp [flds] at hf
    subst hf
    refine ⟨by decide, fun k hk => ?_, by decide, fun k hk => ?_⟩
    · have : k = 0 ∨ k = 1 ∨ k = 2 := by first | (simp at hk; omega) | (simp at hk)
      rcases this with rfl | rfl | rfl <;> first | (left; decide) | (right; decide) | (simp at hk)
    · have : k = 0 ∨ k = 1 ∨ k = 2 := by first | (simp [offs] at hk; omega) | (simp [offs] at hk)
      rcases this with rfl | rfl | rfl <;> first | exact ⟨_, rfl, rfl⟩ | (simp [offs] at hk)

theorem lineTo_all (K : Int) (e : Ev) {k : Nat} (h : (offs K).length ≤ k) : lineTo K e k = wordB K ++ (offs K).flatMap (fun o => 32 :: Lib.itoa (e.num o)) := by
  unfold lineTo; rw [List.take_of_length_le h]

set_option maxHeartbeats 2000000 in
theorem evLine_any (e : Ev) (w : World) (hf : fault e = 0) :
    Calls Tryd.prog 22 #[.agg #[.int .i64 e.kind, .int .i64 e.key, .int .i64 e.slot, .int .i64 e.gen, .bool e.good, .int .i64 e.req, .int .i64 e.be, .int .i64 e.wt]] w fun r w' => r = .returned (.string ⟨(lineN e).toArray⟩) ∧ Below w.heap.size w w' := by
  obtain ⟨fs, hfs, hl3, hol, hor, h42, hfo⟩ := fld_offs hf
  have HF := Lib.hid (And.intro hf (And.intro hfs (And.intro hor (And.intro h42 (And.intro hfo (line_num hf))))))
  have HLT : Hid (∀ k, (lineTo e.kind e k).length ≤ 39) := fun k => lineTo_len hf k
  have HL : Hid (lineN e = wordB e.kind ++ (offs e.kind).flatMap (fun o => 32 :: Lib.itoa (e.num o)) ++ (if e.kind = 4 then 32 :: outB e.good else [])) := rfl
  clear hf hfs hor h42 hfo
  have hE0 : EvAt (w.alloc (.cells #[.int .i64 e.kind, .int .i64 e.key, .int .i64 e.slot, .int .i64 e.gen, .bool e.good, .int .i64 e.req, .int .i64 e.be, .int .i64 e.wt] 34)) w.heap.size e := heap_new w _
  go_enter Tryd.func22, Tryd.ntmps22
  go_wp2_with fail
  refine (nums_some e fs _ HF.out.2.1).mono ?_
  rintro r w1 ⟨v, lo, hi, rfl, hb1, ho, _, _⟩
  have hns : w1.ownsRow (w.alloc (.cells #[.int .i64 e.kind, .int .i64 e.key, .int .i64 e.slot, .int .i64 e.gen, .bool e.good, .int .i64 e.req, .int .i64 e.be, .int .i64 e.wt] 34)).heap.size 3 1 v (fs.map fun f => e.num f.off).length ((fs.map fun f => e.num f.off).map (.int .i64)) := by
    rw [List.length_map, List.map_map]; exact ho
  obtain ⟨a, cap, rfl, hat⟩ := ints_one hns
  rw [List.length_map] at *
  have hE1 := hE0.below hb1 (by simp)
  have hB1 : Below w.heap.size w w1 := ((Below.refl _ _).alloc (Nat.le_refl _) _).trans (hb1.mono (by simp))
  have q0 : w1.cell? ⟨w.heap.size, 0, none⟩ = some (.int .i64 e.kind) := hE1.cell 0
  have HA := Lib.hid hat
  have HH := Lib.hid (And.intro hE1 hB1)
  clear hat hns ho hE1 hB1 hE0
  go_wp2_with fail
  refine (word_any e.kind w1).mono ?_
  rintro r w2 ⟨rfl, rfl⟩
  have hmay := may_kind HF.out.1
  generalize hKe : e.kind = K at *
  have HKe := Lib.hid hKe
  clear hKe
  go_wp2
  go_loopw [7, 8] (fun s i wr => ∃ k : Nat, k ≤ fs.length ∧ i = .int .i64 k ∧ s = .string ⟨(lineTo K e k).toArray⟩ ∧ Below w2.heap.size w2 wr) (fun _ i _ => fs.length - (intOf i).toNat)
  case atStart => exact ⟨0, Nat.zero_le _, rfl, by simp [lineTo], Below.refl _ _⟩
  case round =>
    obtain ⟨k, hk, rfl, rfl, hg⟩ := hrel
    have hEr := HH.out.1.below hg HH.out.1.lt
    have r0 : wr.cell? ⟨w.heap.size, 0, none⟩ = some (.int .i64 K) := by rw [hEr.cell 0]; show some (Value.int .i64 e.kind) = _; rw [HKe.out]
    have r4 : wr.cell? ⟨w.heap.size, 4, none⟩ = some (.bool e.good) := hEr.cell 4
    by_cases hlt : k < fs.length
    · have hkI : (k : Int) < (fs.length : Int) := by omega
      by_cases hsk : K = 4 ∧ k = 2
      · obtain ⟨rfl, hk2⟩ := hsk
        have hk2I : (k : Int) = 2 := by omega
        have HK2 := Lib.hid hk2
        have hT : Hid (lineTo 4 e (k + 1) = lineTo 4 e k) := by
          unfold Hid
          rw [lineTo_all 4 e (by rw [HF.out.2.2.2.1 rfl]; omega), lineTo_all 4 e (by rw [HF.out.2.2.2.1 rfl]; omega)]
        clear hk2
        go_wp2
        go_roundw
        case rel => exact ⟨k + 1, by omega, by have := HK2.out; simp [this], by rw [hT.out], hg⟩
        case measure => have := HK2.out; simp [intOf]; omega
      · have hko : k < (offs K).length := by
          rcases HF.out.2.2.1 k hlt with h | h
          · exact h
          · exact absurd h hsk
        obtain ⟨f, hf1, hf2⟩ := HF.out.2.2.2.2.1 k hko
        have hfm := HF.out.2.2.2.2.2 f.off (List.mem_of_getElem? hf2)
        obtain ⟨g, rfl, g1, g2, c0, _⟩ := HA.out k (e.num f.off) (by rw [List.getElem?_map, hf1]; rfl)
        rw [← hg.cell (p := ⟨g, k, none⟩) g2] at c0
        obtain ⟨m, hm⟩ : ∃ m : Nat, e.num f.off = m := ⟨(e.num f.off).toNat, by omega⟩
        rw [hm] at c0 hfm
        have hto : lineTo K e (k + 1) = lineTo K e k ++ [32] ++ Lib.decDigits m := by
          unfold lineTo
          rw [List.take_succ_eq_append_getElem hko, List.flatMap_append]
          have : (offs K)[k] = f.off := by have := hf2; rw [List.getElem?_eq_getElem hko] at this; exact Option.some.inj this
          rw [this]
          simp [hm, Lib.itoa_nonneg]
        have i1 : (Lib.decDigits m).length ≤ 10 := dig_len _ 9 (by omega)
        have i2 : (lineTo K e k).length ≤ 39 := HLT.out k
        have s1 : ¬ 9223372036854775807 < (lineTo K e k).length + 1 := by omega
        have s2 : ¬ 9223372036854775807 < (lineTo K e k).length + 1 + (Lib.decDigits m).length := by omega
        have HT := Lib.hid hto
        have hm32 : m ≤ 4294967295 := by omega
        have hcase : ((K == 4) = false) ∨ (K = 4 ∧ ((k : Int) == 2) = false) := by
          by_cases h4 : K = 4
          · exact .inr ⟨h4, beq_eq_false_iff_ne.2 (by intro h; exact hsk ⟨h4, by omega⟩)⟩
          · exact .inl (beq_eq_false_iff_ne.2 h4)
        clear hto hf1 hf2 hfm hm hsk
        rcases hcase with h4 | ⟨rfl, h2⟩
        all_goals
          go_wp2_with fail
          refine (dec_any m hm32 wr).mono ?_
          rintro r w3 ⟨rfl, hb3⟩
          go_wp2
          go_roundw
          case rel =>
            refine ⟨k + 1, by omega, by go_num, ?_, hg.trans (hb3.mono hg.size)⟩
            show Value.string _ = Value.string _
            congr 1
            rw [HT.out, show (⟨#[32]⟩ : ByteArray) = ⟨[32].toArray⟩ from rfl, cat_str, cat_str]
          case measure => simp [intOf]; omega
    · have hall := lineTo_all K e (k := k) (by omega)
      have HB : Hid (Below w.heap.size w wr) := HH.out.2.trans (hg.mono HH.out.2.size)
      have i2 : (lineTo K e k).length ≤ 39 := HLT.out k
      rw [← hall] at HL
      clear hall
      generalize lineTo K e k = L at *
      have hkI : ¬ (k : Int) < (fs.length : Int) := by omega
      by_cases h4 : K = 4
      · subst h4
        cases hgd : e.good
        all_goals
          rw [hgd] at r4 HL
          have s1 : ¬ 9223372036854775807 < L.length + 5 := by omega
          have s2 : ¬ 9223372036854775807 < L.length + 4 := by omega
          go_wp2
          go_ret
          refine ⟨?_, HB.out⟩
          rw [HL.out]
          first
            | (rw [show (⟨#[32, 103, 111, 111, 100]⟩ : ByteArray) = ⟨[32, 103, 111, 111, 100].toArray⟩ from rfl, cat_str]; rfl)
            | (rw [show (⟨#[32, 98, 97, 100]⟩ : ByteArray) = ⟨[32, 98, 97, 100].toArray⟩ from rfl, cat_str]; rfl)
      · have h4' : (K == 4) = false := beq_eq_false_iff_ne.2 h4
        go_wp2
        go_ret
        exact ⟨by rw [HL.out, if_neg h4, List.append_nil]; rfl, HB.out⟩
end Go.Proofs.YtkefdbnnfcfmjaaDoor.Walks
