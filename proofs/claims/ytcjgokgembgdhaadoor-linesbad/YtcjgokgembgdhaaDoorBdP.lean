/-
  Lines that are none, among lines: what is read of such a text; two parts of a slice of events. No condition.
-/
import Derived.Test.YtcjgokgembgdhaaDoorCom
import Derived.WalkKit
import Derived.ProofKit
import Derived.Handy
import Derived.LoopTactic
import Derived.Below
import Derived.Laws.BitsAllLaws
import Derived.RegionTactic
import Derived.Deep.RegionHeld3
import Derived.Deep.DrawnRows
import Derived.Deep.AppendLies
import Derived.Laws.OwnMore
import Derived.Deep.Onto
import Derived.Deep.QuietTactic
import Derived.BigQuiet
namespace Go.Proofs.YtcjgokgembgdhaaDoor.Walks
open Go.RowKit
open Go.Proofs.YtcjgokgembgdhaaDoor.Plain
set_option linter.unusedVariables false
set_option linter.unusedSimpArgs false
attribute [local go_sem ↓] Go.wp_at_zero Go.wp_at_succ

def badW (i : Nat) : List UInt8 :=
  if i = 0 then [111, 112, 101, 110, 10]
  else if i = 1 then [116, 105, 99, 107, 32, 49, 10]
  else if i = 2 then [10]
  else if i = 3 then [99, 108, 111, 115, 101, 32, 52, 48, 32, 48, 10]
  else if i = 4 then [106, 111, 105, 110, 32, 49, 32, 50, 32, 57, 10]
  else if i = 5 then [97, 110, 115, 119, 101, 114, 32, 49, 32, 50, 32, 119, 101, 108, 108, 10]
  else if i = 6 then [100, 97, 116, 97, 32, 48, 49, 32, 50, 10]
  else [84, 105, 99, 107, 10]

theorem dig1 : Lib.itoa 1 = [49] := by unfold Lib.itoa; rw [if_neg (by omega), Lib.decDigits]; rfl
theorem dig2 : Lib.itoa 2 = [50] := by unfold Lib.itoa; rw [if_neg (by omega), Lib.decDigits]; rfl

theorem ev_none {line : List UInt8} {e : Ev} (h : rawP line = some e) (hn : ¬ (fault e = 0 ∧ lineB e = line)) : evP line = none := by
  unfold evP; rw [h]; exact if_neg hn

theorem bad_none (i : Nat) (hi : i < 8) : evP (badW i) = none := by
  have : i = 0 ∨ i = 1 ∨ i = 2 ∨ i = 3 ∨ i = 4 ∨ i = 5 ∨ i = 6 ∨ i = 7 := by omega
  rcases this with rfl | rfl | rfl | rfl | rfl | rfl | rfl | rfl
  · unfold evP; rw [show rawP (badW 0) = none by decide]
  · exact ev_none (show rawP (badW 1) = some ⟨7, 0, 0, 0, false, 0, 0, 0⟩ by decide) (fun h => absurd h.2 (by decide))
  · exact ev_none (show rawP (badW 2) = some ⟨0, 0, 0, 0, false, 0, 0, 0⟩ by decide) (fun h => absurd h.1 (by decide))
  · exact ev_none (show rawP (badW 3) = some ⟨3, 0, 40, 0, false, 0, 0, 0⟩ by decide) (fun h => absurd h.1 (by decide))
  · exact ev_none (show rawP (badW 4) = some ⟨5, 0, 0, 0, false, 1, 2, 9⟩ by decide) (fun h => absurd h.1 (by decide))
  · refine ev_none (show rawP (badW 5) = some ⟨4, 0, 1, 2, false, 0, 0, 0⟩ by decide) (fun h => ?_)
    have h2 := h.2
    simp [lineB, lineN, offs, Ev.num, dig1, dig2, wordB, outB, badW] at h2
  · refine ev_none (show rawP (badW 6) = some ⟨2, 0, 1, 2, false, 0, 0, 0⟩ by decide) (fun h => ?_)
    have h2 := h.2
    simp [lineB, lineN, offs, Ev.num, dig1, dig2, wordB, badW] at h2
  · exact ev_none (show rawP (badW 7) = some ⟨0, 0, 0, 0, false, 0, 0, 0⟩ by decide) (fun h => absurd h.1 (by decide))

theorem bad_form (i : Nat) : ∃ b, badW i = b ++ [10] ∧ 10 ∉ b ∧ b.length ≤ 15 := by
  unfold badW
  repeat' split
  · exact ⟨[111, 112, 101, 110], rfl, by decide, by decide⟩
  · exact ⟨[116, 105, 99, 107, 32, 49], rfl, by decide, by decide⟩
  · exact ⟨[], rfl, by decide, by decide⟩
  · exact ⟨[99, 108, 111, 115, 101, 32, 52, 48, 32, 48], rfl, by decide, by decide⟩
  · exact ⟨[106, 111, 105, 110, 32, 49, 32, 50, 32, 57], rfl, by decide, by decide⟩
  · exact ⟨[97, 110, 115, 119, 101, 114, 32, 49, 32, 50, 32, 119, 101, 108, 108], rfl, by decide, by decide⟩
  · exact ⟨[100, 97, 116, 97, 32, 48, 49, 32, 50], rfl, by decide, by decide⟩
  · exact ⟨[84, 105, 99, 107], rfl, by decide, by decide⟩

theorem bad_len (i : Nat) : (badW i).length ≤ 16 := by
  obtain ⟨b, h, _, h2⟩ := bad_form i
  rw [h]; simp; omega

theorem read_bad {A B : List Ev} (hA : ∀ e ∈ A, fault e = 0) (hB : ∀ e ∈ B, fault e = 0) (ha : A.length ≤ 20) (hb : B.length ≤ 20) (i : Nat) (hi : i < 8) : readT (shown A ++ badW i ++ shown B) = .inl (3, A.length) := by
  have h1 := shown_len A hA
  have h2 := shown_len B hB
  have h3 := bad_len i
  obtain ⟨b, hf, hn, _⟩ := bad_form i
  unfold readT
  rw [if_neg (by simp only [List.length_append]; omega)]
  have e : lns (shown A ++ badW i ++ shown B) = A.map lineB ++ (badW i :: lns (shown B)) := by
    rw [List.append_assoc, lns_shown A _ hA, hf, List.append_assoc]
    rw [show b ++ ([10] ++ shown B) = b ++ 10 :: shown B from rfl, lns_cut _ _ hn]
  rw [e, readF_shown A 0 [] _ hA (by omega), readF, if_neg (by omega), bad_none i hi]
  simp

theorem cut_slices {w : World} {base n c q : Nat} {p : Option Addr} {es : List Ev} (ho : w.ownsRow base 34 8 (.slice p n c) n (Rv.rv evV es)) (hn : es.length = n) (hq : q ≤ n) :
    ∃ p1 c1 p2 c2, (∀ W : World, (Instr.sliceAt 22 (.slice p n c) none (some (.int .i64 (q : Int))) (some (.int .i64 (q : Int)))).run Tryd.prog W = .ok (.slice p1 q c1) W) ∧ (∀ W : World, (Instr.sliceAt 22 (.slice p n c) (some (.int .i64 (q : Int))) none none).run Tryd.prog W = .ok (.slice p2 (n - q) c2) W) ∧
      EsAt w (.slice p1 q c1) (es.take q) ∧ EsAt w (.slice p2 (n - q) c2) (es.drop q) := by
  have hrow := Rv.rowAt_own ho
  obtain ⟨a, cap, hv, hc, hm, hr⟩ := hrow
  cases hv
  have u22 : Tryd.prog.underlying 22 = some (.slice (Tryd.prog.elem 22)) := by kernel_rfl
  obtain ⟨i0, hi, hz0, hz1, hz2⟩ := info_parts infoEv
  have hsz : ∀ W : World, (sizeOf (Tryd.prog.elem 22)).run Tryd.prog W = .ok 8 W := fun W => by
    rw [show Tryd.prog.elem 22 = 34 by kernel_rfl]
    simp [sizeOf, typeInfo, hi, hz1]
  refine ⟨if q = 0 then p else p.map (·.add (0 * 8)), q - 0, if c = q then p else p.map (·.add (q * 8)), c - q, fun W => ?_, fun W => ?_, ?_, ?_⟩
  · rw [run_sliceAt_slice _ _ _ _ _ _ u22, run_slice_hm _ _ _ _ _ u22 _ _ _ _ (by omega) (by omega) (by omega), hsz]
    simp [Result.andThen, sliced]
  · rw [run_sliceAt_slice _ _ _ _ _ _ u22, run_slice_l _ _ _ _ _ u22 _ _ (by omega) (by omega), hsz]
    simp [Result.andThen, sliced]
  · have ht : (es.take q).length = q := by rw [List.length_take]; omega
    show Rv.RowAt _ _ (es.take q).length _
    rw [ht]
    refine ⟨_, _, rfl, by omega, by unfold maxLen at *; omega, ?_⟩
    by_cases h0 : q = 0
    · subst h0; exact .inl ⟨rfl, rfl⟩
    · rcases hr with ⟨h1, _⟩ | ⟨b, off, rfl, hb, hcell⟩
      · omega
      · refine .inr ⟨b, off, by rw [if_neg h0]; simp [Addr.add], hb, fun i hi' => ?_⟩
        rw [← Rv.rv_take ev8, List.length_take] at hi'
        rw [hcell i (by omega), ← Rv.rv_take ev8, List.getElem?_take_of_lt (by omega)]
  · have ht : (es.drop q).length = n - q := by rw [List.length_drop, hn]
    show Rv.RowAt _ _ (es.drop q).length _
    rw [ht]
    refine ⟨_, _, rfl, by omega, by unfold maxLen at *; omega, ?_⟩
    by_cases h0 : n - q = 0
    · exact .inl ⟨h0, by rw [List.drop_eq_nil_of_le (by omega)]; rfl⟩
    · rcases hr with ⟨h1, _⟩ | ⟨b, off, rfl, hb, hcell⟩
      · omega
      · refine .inr ⟨b, off + q * 8, by rw [if_neg (by omega)]; simp [Addr.add], hb, fun i hi' => ?_⟩
        rw [← Rv.rv_drop ev8, List.length_drop] at hi'
        rw [Nat.add_assoc, hcell (q * 8 + i) (by omega), ← Rv.rv_drop ev8, List.getElem?_drop]

theorem wpList_slice_eq {P : Program} {w : World} {ops : Array Oper} {rest : List Oper} {o : Oper} {a : Act} {Q : Exit → Act → World → Prop} (hgd : o.guard = none) (T : TypeId) (x : Operand) (lo hi mx : Option Operand)
    (ho : o.op = .slice T x lo hi mx) (y : Value) (hr : (Instr.sliceAt T (a.eval x) (lo.map a.eval) (hi.map a.eval) (mx.map a.eval)).run P w = .ok y w)
    (h : wpList P ops Q rest (a.put o.dst y) w) : wpList P ops Q (o :: rest) a w :=
  wpList_plain hgd fun _ hK => by
    unfold Oper.wp execOp
    simp only [ho, Sem.run_bind, Sem.run_pure, Result.andThen_ok, hr]
    exact hK _ _ h
end Go.Proofs.YtcjgokgembgdhaaDoor.Walks
