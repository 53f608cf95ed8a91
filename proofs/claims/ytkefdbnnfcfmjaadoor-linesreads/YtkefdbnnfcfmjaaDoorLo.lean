/-
  The program's line of an event that may come. Condition: the words and the table of powers of ten are as their initialisers lay them.
-/
import Derived.Test.YtkefdbnnfcfmjaaDoorNb
import Derived.Test.YtkefdbnnfcfmjaaDoorShelf
import Derived.WalkKit
import Derived.ProofKit
import Derived.Handy
import Derived.LoopTactic
import Derived.Below
import Derived.Laws.BitsAllLaws
import Derived.RegionTactic
import Derived.Deep.RegionHeld3
import Derived.Deep.DrawnRows
import Derived.Deep.AppendLies
import Derived.Laws.OwnMore
import Derived.Deep.Onto
import Derived.Deep.QuietTactic
import Derived.BigQuiet
namespace Go.Proofs.YtkefdbnnfcfmjaaDoor.Walks
open Go.RowKit
open Go.Proofs.YtkefdbnnfcfmjaaDoor.Plain
set_option linter.unusedVariables false
set_option linter.unusedSimpArgs false
attribute [local go_sem ↓] Go.wp_at_zero Go.wp_at_succ

/-- The words of the kinds and the table of powers of ten are as they were laid. -/
def Gs (w : World) : Prop :=
  (∀ k : Nat, k < 8 → w.cell? ⟨0, k, none⟩ = some (.string ⟨(wordB k).toArray⟩)) ∧ Lib.TabIs Tryd.prog w "internal/strconv.uint64pow10" .u64 Lib.pow10Tab ∧ 9 ≤ w.heap.size

theorem tab_below {w w' : World} {B : Nat} (hb : Below B w w') (hB : 9 ≤ B) (h : Lib.TabIs Tryd.prog w "internal/strconv.uint64pow10" .u64 Lib.pow10Tab) : Lib.TabIs Tryd.prog w' "internal/strconv.uint64pow10" .u64 Lib.pow10Tab := by
  have hg : Tryd.prog.globalNamed "internal/strconv.uint64pow10" = some 2 := by kernel_rfl
  unfold Lib.TabIs World.var? at *
  rw [hg] at *
  simp only [Option.bind_some] at *
  rw [hb.block 2 (by omega)]; exact h

theorem Gs.below {w w' : World} {B : Nat} (h : Gs w) (hb : Below B w w') (hB : 9 ≤ B) : Gs w' :=
  ⟨fun k hk => by rw [hb.cell (p := ⟨0, k, none⟩) (by simp; omega)]; exact h.1 k hk, tab_below hb hB h.2.1, Nat.le_trans h.2.2 hb.size⟩

theorem below_grow {w w' : World} {k : Nat} {os : Array Obj} (h : w' = Sort.grow (w.drewN k) os) : Below w.heap.size w w' := by
  subst h
  exact ⟨rfl, rfl, rfl, by simp [Sort.grow], fun i hi => by simp only [Sort.grow]; rw [Array.getElem?_append_left (by exact hi)]; rfl⟩

theorem cat_str (a b : List UInt8) : (⟨a.toArray⟩ : ByteArray) ++ ⟨b.toArray⟩ = ⟨(a ++ b).toArray⟩ := by
  apply ByteArray.ext
  simp

/-- The line's bytes behind the first k numbers. -/
def lineTo (K : Int) (e : Ev) (k : Nat) : List UInt8 := wordB K ++ ((offs K).take k).flatMap (fun o => 32 :: Lib.itoa (e.num o))

theorem line_num {e : Ev} (h : fault e = 0) : ∀ o ∈ offs e.kind, 0 ≤ e.num o ∧ e.num o ≤ 4294967295 ∧ 1 ≤ o ∧ o ≤ 7 ∧ o ≠ 4 := by
  rcases may_cases h with ⟨n, h0, h1, rfl⟩ | ⟨k, s, g, hk, h0, h1, h2, h3, rfl⟩ | ⟨s, g, b, h0, h1, h2, h3, rfl⟩ | ⟨r, b, w, h0, h1, h2, h3, h4, h5, rfl⟩ | ⟨r, b, h0, h1, h2, h3, rfl⟩ | rfl
  · simp [offs, Ev.num]; omega
  · rcases hk with rfl | rfl
    all_goals (simp [offs, Ev.num]; omega)
  · simp [offs, Ev.num]; omega
  · simp [offs, Ev.num]; omega
  · simp [offs, Ev.num]; omega
  · simp [offs, Ev.num]

theorem lineTo_len {e : Ev} (h : fault e = 0) (k : Nat) : (lineTo e.kind e k).length ≤ 39 := by
  have hn := line_num h
  have hw := word_len e.kind
  have h3 : (offs e.kind).length ≤ 3 := by unfold offs; repeat' split
                                           all_goals simp
  have : ∀ l : List Nat, (∀ o ∈ l, (Lib.itoa (e.num o)).length ≤ 10) → (l.flatMap fun o => 32 :: Lib.itoa (e.num o)).length ≤ 11 * l.length := by
    intro l hl
    induction l with
    | nil => simp
    | cons a l ih =>
      have h1 := hl a (by simp)
      have h2 := ih (fun o ho => hl o (List.mem_cons_of_mem _ ho))
      simp at *; omega
  have := this ((offs e.kind).take k) (fun o ho => by have := hn o (List.mem_of_mem_take ho); exact itoa_len this.1 this.2.1)
  unfold lineTo
  rw [List.length_append]
  have hk : ((offs e.kind).take k).length ≤ 3 := by rw [List.length_take]; omega
  omega

theorem may_kind {e : Ev} (h : fault e = 0) : 1 ≤ e.kind ∧ e.kind ≤ 7 := by
  rcases may_cases h with ⟨n, h0, h1, rfl⟩ | ⟨k, s, g, hk, h0, h1, h2, h3, rfl⟩ | ⟨s, g, b, h0, h1, h2, h3, rfl⟩ | ⟨r, b, w, h0, h1, h2, h3, h4, h5, rfl⟩ | ⟨r, b, h0, h1, h2, h3, rfl⟩ | rfl
  all_goals simp
  omega

theorem ev_num {w : World} {b : Nat} {e : Ev} (h : EvAt w b e) {o : Nat} (h1 : 1 ≤ o) (h7 : o ≤ 7) (h4 : o ≠ 4) : w.cell? ⟨b, o, none⟩ = some (.int .i64 (e.num o)) := by
  rw [h.cell o]
  have : o = 1 ∨ o = 2 ∨ o = 3 ∨ o = 5 ∨ o = 6 ∨ o = 7 := by omega
  rcases this with rfl | rfl | rfl | rfl | rfl | rfl <;> rfl

set_option maxHeartbeats 1000000 in
theorem line_any (e : Ev) (w : World) (hG : Gs w) (hf : fault e = 0) :
    Calls Tryd.prog 19 #[.agg #[.int .i64 e.kind, .int .i64 e.key, .int .i64 e.slot, .int .i64 e.gen, .bool e.good, .int .i64 e.req, .int .i64 e.be, .int .i64 e.wt]] w fun r w' => r = .returned (.string ⟨(lineB e).toArray⟩) ∧ Below w.heap.size w w' := by
  obtain ⟨hk1, hk7⟩ := may_kind hf
  obtain ⟨K, hK⟩ : ∃ K : Nat, e.kind = K := ⟨e.kind.toNat, by omega⟩
  have h9 := hG.2.2
  have hw0 : ∀ o, (w.alloc o).cell? ⟨0, K, none⟩ = some (.string ⟨(wordB K).toArray⟩) := fun o => by rw [World.cell?_alloc_old _ _ _ (by simp; omega)]; exact hG.1 K (by omega)
  obtain ⟨E, hE⟩ : ∃ E, E = e := ⟨_, rfl⟩
  have HF : Hid (fault E = 0 ∧ E.kind = K ∧ Gs w ∧ (∀ o ∈ offs K, 0 ≤ E.num o ∧ E.num o ≤ 4294967295 ∧ 1 ≤ o ∧ o ≤ 7 ∧ o ≠ 4)) := by subst hE; exact ⟨hf, hK, hG, hK ▸ line_num hf⟩
  have HD : Hid (∀ k, (lineTo K e k).length ≤ 39) := fun k => hK ▸ lineTo_len hf k
  have HL : Hid (lineB E = wordB K ++ (offs K).flatMap (fun o => 32 :: Lib.itoa (E.num o)) ++ (if (K : Int) = 4 then 32 :: outB E.good else []) ++ [10]) := by subst hE; unfold Hid lineB lineN; rw [hK]
  have HA : ∀ (x : World) b, x.heap[b]? = some (.cells #[.int .i64 K, .int .i64 e.key, .int .i64 e.slot, .int .i64 e.gen, .bool e.good, .int .i64 e.req, .int .i64 e.be, .int .i64 e.wt] 34) → EvAt x b E := fun x b h => by subst hE; unfold EvAt arr; rw [h, hK]
  have hgood : Hid (E.good = e.good) := by subst hE; exact rfl
  rw [show lineB e = lineB E by rw [hE], hK]
  rw [← hE] at HD
  have HA' := HA _ w.heap.size (heap_new w _)
  have hK8 : K < 8 := by omega
  clear hf hG hE hK HA hk1 hk7
  go_enter Tryd.func19, Tryd.ntmps19
  go_wp2_with fail
  refine (nb_any w.heap.size K _ (by simp)).mono ?_
  rintro r w0 ⟨v, rfl, hb, hpt⟩
  obtain ⟨a, cap, rfl, hat⟩ := hpt
  have hE0 : EvAt w0 w.heap.size E := HA'.below hb (by simp)
  have HP : Hid (_ ∧ _) := ⟨hat, hb⟩
  clear hat
  have hl3 : (offs K).length ≤ 3 := by unfold offs; repeat' split
                                       all_goals simp
  go_wp2
  go_loopw [12, 3] (fun i s wr => ∃ k : Nat, k ≤ (offs K).length ∧ i = .int .i64 k ∧ s = .string ⟨(lineTo K E k).toArray⟩ ∧ Below w0.heap.size w0 wr) (fun i _ _ => (offs K).length - (intOf i).toNat)
  case atStart => exact ⟨0, Nat.zero_le _, rfl, by simp [lineTo], Below.refl _ _⟩
  case round =>
    obtain ⟨k, hk, rfl, rfl, hg⟩ := hrel
    by_cases hlt : k < (offs K).length
    · have ho : (offs K)[k]? = some (offs K)[k] := List.getElem?_eq_getElem hlt
      have hto : (offs K).take (k + 1) = (offs K).take k ++ [(offs K)[k]] := List.take_succ_eq_append_getElem hlt
      have hn := HF.out.2.2.2 _ (List.getElem_mem hlt)
      generalize (offs K)[k] = o at *
      obtain ⟨g, rfl, g1, g2, c0⟩ := HP.out.1 k o ho
      rw [← hg.cell (p := ⟨g, k, none⟩) g2] at c0
      have hE := hE0.below hg hE0.lt
      have c1 := ev_num hE hn.2.2.1 hn.2.2.2.1 hn.2.2.2.2
      have HN : Hid (_ ∧ _) := ⟨hn, hto⟩
      clear ho hto hn
      generalize hm : E.num o = m at *
      go_wp2_with fail
      refine (Tryd.strconv_Itoa m (by have := HN.out.1; omega) (by have := HN.out.1; omega) wr (HF.out.2.2.1.below ((((Below.refl w.heap.size w).alloc (Nat.le_refl _) _).trans (hb.mono (by simp))).trans (hg.mono (by have := hb.size; simp at this; omega))) h9).2.1).mono ?_
      rintro r w1 ⟨rfl, kk, oo, hw1⟩
      have hb1 := below_grow hw1
      have HW := Lib.hid hw1
      clear hw1
      have i1 : (Lib.itoa m).length ≤ 10 := itoa_len HN.out.1.1 HN.out.1.2.1
      have i2 : (lineTo K E k).length ≤ 39 := HD.out k
      have s1 : ¬ 9223372036854775807 < 1 + (Lib.itoa m).length := by omega
      have s2 : ¬ 9223372036854775807 < (lineTo K E k).length + (1 + (Lib.itoa m).length) := by omega
      go_wp2
      go_roundw
      case rel =>
        refine ⟨k + 1, by omega, by go_num, ?_, hg.trans (hb1.mono hg.size)⟩
        show Value.string _ = Value.string _
        congr 1
        rw [show (⟨#[32]⟩ : ByteArray) = ⟨[32].toArray⟩ from rfl, cat_str, cat_str]
        congr 2
        unfold lineTo
        rw [HN.out.2, List.flatMap_append]
        simp [hm]
      case measure => simp [intOf]; omega
    · have : k = (offs K).length := by omega
      subst this
      have hE := hE0.below hg hE0.lt
      have e0 : wr.cell? ⟨w.heap.size, 0, none⟩ = some (.int .i64 K) := by rw [hE.cell 0]; show some (Value.int .i64 E.kind) = _; rw [HF.out.2.1]
      have e4 : wr.cell? ⟨w.heap.size, 4, none⟩ = some (.bool e.good) := by rw [hE.cell 4]; show some (Value.bool E.good) = _; rw [hgood.out]
      have HB : Hid (Below w.heap.size w wr) := (((Below.refl w.heap.size w).alloc (Nat.le_refl _) _).trans (hb.mono (by simp))).trans (hg.mono (by have := hb.size; simp at this; omega))
      have i2 : (lineTo K E (offs K).length).length ≤ 39 := HD.out _
      have HT : Hid (lineTo K E (offs K).length = wordB K ++ (offs K).flatMap (fun o => 32 :: Lib.itoa (E.num o))) := by unfold Hid lineTo; rw [List.take_length]
      generalize lineTo K E (offs K).length = L at *
      by_cases h4 : K = 4
      · subst h4
        have i3 : (outB e.good).length ≤ 4 := by cases e.good <;> simp [outB]
        have HO : Hid (outB e.good = outB E.good) := by unfold Hid; rw [hgood.out]
        have s1 : ¬ 9223372036854775807 < 1 + (outB e.good).length := by omega
        have s2 : ¬ 9223372036854775807 < L.length + (1 + (outB e.good).length) := by omega
        have s3 : ¬ 9223372036854775807 < L.length + (1 + (outB e.good).length) + 1 := by omega
        go_wp2_with fail
        refine (outcome_any e.good wr).mono ?_
        rintro r w1 ⟨rfl, rfl⟩
        generalize outB e.good = ob at *
        go_wp2
        go_ret
        refine ⟨?_, HB.out⟩
        rw [HL.out, show (⟨#[32]⟩ : ByteArray) = ⟨[32].toArray⟩ from rfl, show (⟨#[10]⟩ : ByteArray) = ⟨[10].toArray⟩ from rfl, cat_str, cat_str, cat_str, HT.out, HO.out]
        simp
      · have h4' : ((K : Int) == 4) = false := beq_eq_false_iff_ne.2 (by omega)
        have s3 : ¬ 9223372036854775807 < L.length + 1 := by omega
        go_wp2
        go_ret
        refine ⟨?_, HB.out⟩
        have h5 : ¬ (K : Int) = 4 := by omega
        rw [HL.out, show (⟨#[10]⟩ : ByteArray) = ⟨[10].toArray⟩ from rfl, cat_str, HT.out, if_neg h5]
        simp
end Go.Proofs.YtkefdbnnfcfmjaaDoor.Walks
