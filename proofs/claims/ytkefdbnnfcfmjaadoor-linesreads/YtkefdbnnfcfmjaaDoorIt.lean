/-
  The iterator over a text's lines. No condition.
-/
import Derived.Test.YtkefdbnnfcfmjaaDoorRd0
import Derived.RangeFuncNested
import Derived.RangeFuncBound
import Derived.RangeFuncCalls
import Derived.RangeFuncLeaves
import Derived.Shelf.Abstract
import Derived.Shelf.RegionOpen
import Derived.OwnWalkIn
import Derived.TacticsInMore
import Derived.LoopNIn
import Derived.LoopIn
import Derived.WalkKit
import Derived.ProofKit
import Derived.Handy
import Derived.LoopTactic
import Derived.Below
import Derived.Laws.BitsAllLaws
import Derived.RegionTactic
import Derived.Deep.RegionHeld3
import Derived.Deep.DrawnRows
import Derived.Deep.AppendLies
import Derived.Laws.OwnMore
import Derived.Deep.Onto
import Derived.Deep.QuietTactic
import Derived.BigQuiet
namespace Go.Proofs.YtkefdbnnfcfmjaaDoor.Walks
open Go.RowKit
open Go.Proofs.YtkefdbnnfcfmjaaDoor.Plain
set_option linter.unusedVariables false
set_option linter.unusedSimpArgs false
attribute [local go_sem ↓] Go.wp_at_zero Go.wp_at_succ
open Go.Shelf
attribute [local go_sem] Oper.semAt_some

theorem index_none : ∀ (r : List UInt8), Lib.indexByte r 10 = -1 → 10 ∉ r
  | [], _ => by simp
  | c :: r, h => by
    unfold Lib.indexByte at h
    split at h
    · cases h
    · rename_i hc
      split at h
      · rename_i h2
        have ih := index_none r (by simpa using h2)
        intro hm
        rcases List.mem_cons.1 hm with e | hm
        · exact hc (by simp [e])
        · exact ih hm
      · have := Lib.indexByte_ge r 10; omega

theorem lns_none {r : List UInt8} (hne : r ≠ []) (h : Lib.indexByte r 10 = -1) : lns r = [r] := lns_last r hne (index_none r h)

theorem lns_some : ∀ (r : List UInt8) (j : Nat), Lib.indexByte r 10 = j → lns r = r.take (j + 1) :: lns (r.drop (j + 1)) ∧ j < r.length
  | [], j, h => by simp [Lib.indexByte] at h
  | c :: r, j, h => by
    unfold Lib.indexByte at h
    split at h
    · rename_i hc
      have hc : c = 10 := by simpa using hc
      have hj : j = 0 := by omega
      subst hc hj
      rw [lns, if_pos rfl]; simp
    · rename_i hc
      split at h
      · omega
      · have hg := Lib.indexByte_ge r 10
        rename_i hm
        have hm : ¬ Lib.indexByte r 10 = -1 := by simpa using hm
        obtain ⟨i, rfl⟩ : ∃ i, j = i + 1 := ⟨j - 1, by omega⟩
        obtain ⟨h1, h2⟩ := lns_some r i (by omega)
        have hc : ¬ c = 10 := by simpa using hc
        rw [lns, if_neg hc, h1]
        simp; omega

/-- The places and lines, from a place on. -/
def nbd : Nat → List ByteArray → List (Nat × ByteArray)
  | _, [] => []
  | k, x :: r => (k, x) :: nbd (k + 1) r

def lnsB (b : ByteArray) : List ByteArray := (lns b.data.toList).map fun l => ⟨l.toArray⟩

/-- A line that may come: not too long. -/
abbrev Ln : Type := { x : Nat × ByteArray // x.1 ≤ 200000 ∧ x.2.size ≤ 200000 }

theorem extract_list (b : ByteArray) (e : Nat) : b.extract 0 e = ⟨(b.data.toList.take e).toArray⟩ := by
  have h := Lib.extract_data b 0 e
  rw [List.drop_zero, Nat.sub_zero] at h
  rw [← h]

theorem extract_tail (b : ByteArray) (e : Nat) : (b.extract e b.size).data.toList = b.data.toList.drop e := by
  rw [Lib.extract_data, List.take_of_length_le]
  rw [Lib.size_eq, List.length_drop]; exact Nat.le_refl _

def strLen : Value → Nat
  | .string b => b.size
  | _ => 0

theorem lnsB_cut {b : ByteArray} {e : Nat} (h : lns b.data.toList = b.data.toList.take e :: lns (b.data.toList.drop e)) : lnsB b = b.extract 0 e :: lnsB (b.extract e b.size) := by
  unfold lnsB
  rw [h, extract_tail, extract_list]; rfl

theorem ba_nil {b : ByteArray} (h : b.data.toList = []) : b = ⟨#[]⟩ := by
  obtain ⟨⟨l⟩⟩ := b
  simp at h; rw [h]

theorem cut_run (b : ByteArray) (e : Nat) (he : e ≤ b.size) (w : World) : (Instr.sliceAt 9 (.string b) none (some (.int .i64 (e : Int))) none).run Tryd.prog w = .ok (.string (b.extract 0 e)) w := by
  rw [run_sliceAt_string _ _ _ _ _ _ Tryd.underlying9, run_slice_string_h _ _ _ Tryd.underlying9 _ _ (by omega) (by omega)]
  simp
theorem rest_run (b : ByteArray) (e : Nat) (he : e ≤ b.size) (w : World) : (Instr.sliceAt 9 (.string b) (some (.int .i64 (e : Int))) none none).run Tryd.prog w = .ok (.string (b.extract e b.size)) w := by
  rw [run_sliceAt_string _ _ _ _ _ _ Tryd.underlying9, run_slice_string_l _ _ _ Tryd.underlying9 _ _ (by omega) (by omega)]
  simp
theorem wpIn_cut {F : Fence} {n : Nat} {op : Oper} {a : Act} {w : World} {K : Act → World → Prop} {Q : Exit → Act → World → Prop} (x y : Operand) (b : ByteArray) (e : Nat) (he : e ≤ b.size) (ho : op.op = Op.slice 9 x none (some y) none) (hx : a.eval x = .string b) (hy : a.eval y = .int .i64 (e : Int)) (hK : K (a.put op.dst (.string (b.extract 0 e))) w) : Oper.wpIn F n Tryd.prog op a w K Q := by
  unfold Oper.wpIn
  refine ⟨?_, ?_⟩
  · simp [Oper.about, ho]
  · rw [Oper.semAt_plain F _ _ (by rw [ho]; intro c hc; cases hc)]
    have hr := cut_run b e he w
    simp [execOp, ho, hx, hy, hr, Result.andThen]
    exact hK
theorem wpIn_rest {F : Fence} {n : Nat} {op : Oper} {a : Act} {w : World} {K : Act → World → Prop} {Q : Exit → Act → World → Prop} (x y : Operand) (b : ByteArray) (e : Nat) (he : e ≤ b.size) (ho : op.op = Op.slice 9 x (some y) none none) (hx : a.eval x = .string b) (hy : a.eval y = .int .i64 (e : Int)) (hK : K (a.put op.dst (.string (b.extract e b.size))) w) : Oper.wpIn F n Tryd.prog op a w K Q := by
  unfold Oper.wpIn
  refine ⟨?_, ?_⟩
  · simp [Oper.about, ho]
  · rw [Oper.semAt_plain F _ _ (by rw [ho]; intro c hc; cases hc)]
    have hr := rest_run b e he w
    simp [execOp, ho, hx, hy, hr, Result.andThen]
    exact hK
theorem wpIn_len {F : Fence} {n : Nat} {op : Oper} {a : Act} {w : World} {K : Act → World → Prop} {Q : Exit → Act → World → Prop} (x : Operand) (b : ByteArray) (e : Nat) (he : b.size = e) (ho : op.op = Op.call { callee := Callee.builtin Builtin.len, args := #[x], argTypes := #[9] }) (hx : a.eval x = .string b) (hK : K (a.put op.dst (.int .i64 (e : Int))) w) : Oper.wpIn F n Tryd.prog op a w K Q := by
  subst he
  unfold Oper.wpIn
  have hr : (Builtin.len_ #[9] op.type #[.string b]).run Tryd.prog w = .ok (.int .i64 b.size) w := run_len_string _ _ _ _ Tryd.underlying9
  refine ⟨?_, ?_⟩
  · simp [Oper.about, ho, resolve, Target.leads, Sem.run_pure]
  · rw [Oper.semAt_plain F _ _ (by rw [ho]; intro c hc; cases hc)]
    simp [execOp, ho, hx, resolve, invoke, builtin, hr, Result.andThen]
    exact hK

set_option maxRecDepth 100000 in
set_option maxHeartbeats 4000000 in
theorem lines_in (n : Nat) (hn : 1 ≤ n) (l Bt : Nat) (tx : ByteArray) (ht : tx.size ≤ 200000) (J Jx : List Ln → World → Prop)
    (hY : ∀ pre (x : Ln) W, J pre W → pre.length < tx.size → YieldAt Fence.wide (n - 1) Tryd.prog l #[.int .i64 (x.1.1 : Int), .string x.1.2] W fun e W' =>
      (e = .returned (.bool true) ∧ J (pre ++ [x]) W' ∧ True) ∨ (e = .returned (.bool false) ∧ Jx (pre ++ [x]) W'))
    (W : World) (hBt : W.cell? ⟨Bt, 0, none⟩ = some (.string tx)) (h0 : J [] W) :
    CallsIn Fence.wide n Tryd.prog 39 #[.func (.yield l) #[] #[], .pointer (some ⟨Bt, 0, none⟩)] W fun e W' => (∃ v, e = .returned v) ∧
      ((∃ ys : List Ln, ys.map (·.1) = nbd 0 (lnsB tx) ∧ J ys W') ∨ (∃ pre : List Ln, (pre.map (·.1) <+: nbd 0 (lnsB tx)) ∧ Jx pre W')) := by
  refine callsIn_of_wp Tryd.func39 rfl trivial ?_ rfl
  simp only [Tryd.ntmps39, List.size_toArray, List.length_cons, List.length_nil, Nat.reduceAdd, Nat.reduceSub, Array.replicate_succ, Array.replicate_zero, List.push_toArray, List.append_toArray, List.nil_append, List.cons_append]
  gi_wp2
  gi_loopw [3, 4] (fun s i wr => ∃ (k : Nat) (b : ByteArray) (pre : List Ln), s = .string b ∧ i = .int .i64 k ∧ pre.length = k ∧ k + b.size ≤ tx.size ∧ nbd 0 (lnsB tx) = pre.map (·.1) ++ nbd k (lnsB b) ∧ J pre wr)
    (fun s i _ => strLen s)
  case atStart => exact ⟨0, tx, [], rfl, rfl, rfl, by omega, rfl, h0⟩
  case round =>
    obtain ⟨k, b, pre, rfl, rfl, hpl, hks, hnb, hJs⟩ := hrel
    by_cases hb : b.data.toList = []
    · obtain rfl := ba_nil hb
      have HH := Lib.hid (And.intro hnb hJs)
      clear hnb hJs hY
      gi_wp2
      go_end0
      refine ⟨⟨_, rfl⟩, .inl ⟨pre, ?_, HH.out.2⟩⟩
      rw [HH.out.1]; simp [lnsB, lns, nbd]
    · have hsz : b.size = b.data.toList.length := Lib.size_eq b
      have hsz0 : 0 < b.size := by rw [hsz]; exact List.length_pos_iff.2 hb
      have hbe : (b.toList == []) = false := by rw [ByteArray.toList_eq]; simpa using hb
      have hge := Lib.indexByte_ge b.data.toList 10
      by_cases hm : Lib.indexByte b.data.toList 10 = -1
      · have hix := hm
        clear hm hge
        obtain ⟨e0, he0⟩ : ∃ e0, b.size = e0 := ⟨_, rfl⟩
        have hlnb := lnsB_cut (b := b) (e := e0) (by rw [lns_none hb hix, ← he0, hsz, List.take_length, List.drop_length]; rfl)
        have hxs : (b.extract 0 e0).size ≤ 200000 := by
          have : (b.extract 0 e0).size = (b.extract 0 e0).data.toList.length := Lib.size_eq _
          rw [this, Lib.extract_data, List.length_take]; simp; omega
        obtain ⟨x, hx⟩ : ∃ x : Ln, x.1 = (k, b.extract 0 e0) := ⟨⟨(k, b.extract 0 e0), by constructor <;> (dsimp only; omega)⟩, rfl⟩
        have hnb2 : nbd 0 (lnsB tx) = (pre ++ [x]).map (·.1) ++ nbd (k + 1) (lnsB (b.extract e0 b.size)) := by rw [hnb, hlnb, nbd, List.map_append, List.map_cons, hx]; simp
        obtain ⟨fn, tmps, assign, body, hy, hR⟩ := hY pre x wr hJs (by omega)
        rw [hx] at hy
        dsimp only at hy
        have hR' := hR.mono (R' := fun e W3 => ∃ go : Bool, e = .returned (.bool go) ∧ (go = true → Hid (J (pre ++ [x]) W3 ∧ True)) ∧ (go = false → Hid (Jx (pre ++ [x]) W3 ∧ True))) (fun e W3 h => by
          rcases h with ⟨h1, h2, h3⟩ | ⟨h1, h2⟩
          · exact ⟨true, h1, fun _ => ⟨h2, trivial⟩, fun h => Bool.noConfusion h⟩
          · exact ⟨false, h1, fun h => Bool.noConfusion h, fun _ => ⟨h2, trivial⟩⟩)
        clear hR
        have hsx : (b.extract e0 b.size).size = b.size - e0 := by rw [Lib.size_eq, extract_tail, List.length_drop, ← hsz]
        have HH := Lib.hid (And.intro hnb2 (And.intro hpl hsx))
        clear hnb hnb2 hJs hY hlnb hxs hpl hx hsx hb
        have hi' : ∀ W', Calls Tryd.prog 40 #[.string b, .int .u8 10] W' fun r w1 => r = .returned (.int .i64 (-1)) ∧ w1 = W' := fun W' => (Tryd.strings_IndexByte b 10 W').mono fun r w1 h => by rw [← hix]; exact h
        have HI := Lib.hid hi'
        clear hi' hix
        have g1 : b.size ≤ 9223372036854775807 := by omega
        have g2 : (0 : Int) ≤ (b.size : Int) := by omega
        have g3 : (b.size : Int) ≤ (b.size : Int) := by omega
        have HE0 := Lib.hid he0
        have he0' : e0 ≤ b.size := Nat.le_of_eq he0.symm
        have he1 : 1 ≤ e0 := by omega
        clear he0
        gi_wp2_with (first | (refine ⟨trivial, ?_⟩; gi_at_call 40; refine (callsIn_wide.2 (HI.out _)).mono ?_; rintro r w1 ⟨rfl, rfl⟩))
        refine wpIn_len (.tmp 16) b e0 HE0.out rfl rfl ?_
        simp only [Act.put, List.setIfInBounds_toArray, List.set_cons_zero, List.set_cons_succ]
        gi_wp2
        refine wpIn_cut (.tmp 20) (.tmp 21) b e0 he0' rfl rfl rfl ?_
        simp only [Act.put, List.setIfInBounds_toArray, List.set_cons_zero, List.set_cons_succ]
        gi_wp2
        with_reducible refine hR'.mono ?_
        rintro e W3 ⟨go, rfl, hgo, hno⟩
        cases go
        · have hjx := hno rfl
          clear hgo hno
          gi_wp2
          refine bodyPost_ret (results_none rfl _ _ _) rfl ?_
          exact ⟨⟨_, rfl⟩, .inr ⟨_, ⟨_, HH.out.1.symm⟩, hjx.out.1⟩⟩
        · have hj3 := hgo rfl
          clear hgo hno
          gi_wp2
          refine wpIn_rest (.tmp 25) (.tmp 26) b e0 (Nat.le_of_eq HE0.out.symm) rfl rfl rfl ?_
          simp only [Act.put, List.setIfInBounds_toArray, List.set_cons_zero, List.set_cons_succ]
          gi_wp2
          go_roundw
          case rel => exact ⟨k + 1, _, pre ++ [x], rfl, by go_num, by simp [HH.out.2.1], by rw [HH.out.2.2]; omega, HH.out.1, hj3.out.1⟩
          case measure => show (b.extract e0 b.size).size < b.size; rw [HH.out.2.2]; omega
      · obtain ⟨j, hix⟩ : ∃ j : Nat, Lib.indexByte b.data.toList 10 = j := ⟨(Lib.indexByte b.data.toList 10).toNat, by omega⟩
        have hjl := (lns_some _ _ hix).2
        rw [← hsz] at hjl
        have g4 : (0 : Int) ≤ (j : Int) + 1 := by omega
        have g5 : (j : Int) + 1 ≤ (b.size : Int) := by omega
        have g6 : ((j : Int) + 1 == 0) = false := by rw [beq_eq_false_iff_ne]; omega
        have g7 : ((j : Int) + 1).toNat = j + 1 := by omega
        clear hm hge
        have hlnb := lnsB_cut (b := b) (e := j + 1) (by exact (lns_some _ _ hix).1)
        have hxs : (b.extract 0 (j + 1)).size ≤ 200000 := by
          have : (b.extract 0 (j + 1)).size = (b.extract 0 (j + 1)).data.toList.length := Lib.size_eq _
          rw [this, Lib.extract_data, List.length_take]; simp; omega
        obtain ⟨x, hx⟩ : ∃ x : Ln, x.1 = (k, b.extract 0 (j + 1)) := ⟨⟨(k, b.extract 0 (j + 1)), by constructor <;> (dsimp only; omega)⟩, rfl⟩
        have hnb2 : nbd 0 (lnsB tx) = (pre ++ [x]).map (·.1) ++ nbd (k + 1) (lnsB (b.extract (j + 1) b.size)) := by rw [hnb, hlnb, nbd, List.map_append, List.map_cons, hx]; simp
        obtain ⟨fn, tmps, assign, body, hy, hR⟩ := hY pre x wr hJs (by omega)
        rw [hx] at hy
        dsimp only at hy
        have hR' := hR.mono (R' := fun e W3 => ∃ go : Bool, e = .returned (.bool go) ∧ (go = true → Hid (J (pre ++ [x]) W3 ∧ True)) ∧ (go = false → Hid (Jx (pre ++ [x]) W3 ∧ True))) (fun e W3 h => by
          rcases h with ⟨h1, h2, h3⟩ | ⟨h1, h2⟩
          · exact ⟨true, h1, fun _ => ⟨h2, trivial⟩, fun h => Bool.noConfusion h⟩
          · exact ⟨false, h1, fun h => Bool.noConfusion h, fun _ => ⟨h2, trivial⟩⟩)
        clear hR
        have hsx : (b.extract (j + 1) b.size).size = b.size - (j + 1) := by rw [Lib.size_eq, extract_tail, List.length_drop, ← hsz]
        have HH := Lib.hid (And.intro hnb2 (And.intro hpl hsx))
        clear hnb hnb2 hJs hY hlnb hxs hpl hx hsx hb
        have hi' : ∀ W', Calls Tryd.prog 40 #[.string b, .int .u8 10] W' fun r w1 => r = .returned (.int .i64 (j)) ∧ w1 = W' := fun W' => (Tryd.strings_IndexByte b 10 W').mono fun r w1 h => by rw [← hix]; exact h
        have HI := Lib.hid hi'
        clear hi' hix
        have g1 : b.size ≤ 9223372036854775807 := by omega
        have g2 : (0 : Int) ≤ (b.size : Int) := by omega
        have g3 : (b.size : Int) ≤ (b.size : Int) := by omega
        gi_wp2_with (first | (refine ⟨trivial, ?_⟩; gi_at_call 40; refine (callsIn_wide.2 (HI.out _)).mono ?_; rintro r w1 ⟨rfl, rfl⟩))
        refine wpIn_cut (.tmp 20) (.tmp 21) b (j + 1) (by omega) rfl rfl rfl ?_
        simp only [Act.put, List.setIfInBounds_toArray, List.set_cons_zero, List.set_cons_succ]
        gi_wp2
        with_reducible refine hR'.mono ?_
        rintro e W3 ⟨go, rfl, hgo, hno⟩
        cases go
        · have hjx := hno rfl
          clear hgo hno
          gi_wp2
          refine bodyPost_ret (results_none rfl _ _ _) rfl ?_
          exact ⟨⟨_, rfl⟩, .inr ⟨_, ⟨_, HH.out.1.symm⟩, hjx.out.1⟩⟩
        · have hj3 := hgo rfl
          clear hgo hno
          gi_wp2
          refine wpIn_rest (.tmp 25) (.tmp 26) b (j + 1) (by omega) rfl rfl rfl ?_
          simp only [Act.put, List.setIfInBounds_toArray, List.set_cons_zero, List.set_cons_succ]
          gi_wp2
          go_roundw
          case rel => exact ⟨k + 1, _, pre ++ [x], rfl, by go_num, by simp [HH.out.2.1], by rw [HH.out.2.2]; omega, HH.out.1, hj3.out.1⟩
          case measure => show (b.extract (j + 1) b.size).size < b.size; rw [HH.out.2.2]; omega
end Go.Proofs.YtkefdbnnfcfmjaaDoor.Walks
