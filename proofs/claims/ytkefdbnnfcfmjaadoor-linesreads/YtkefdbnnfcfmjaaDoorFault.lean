/-
  The document's EventFault answers the event's fault, whatever the event. No condition.
-/
import Derived.Test.YtkefdbnnfcfmjaaDoorRows
import Derived.Test.YtkefdbnnfcfmjaaDoorChecked
import Derived.Test.YtkefdbnnfcfmjaaDoorEvOf
import Derived.Deep.QuietTactic
import Derived.BigQuiet
import Derived.WalkKit
import Derived.ProofKit
import Derived.Handy
import Derived.LoopTactic
import Derived.Below
import Derived.Laws.BitsAllLaws
import Derived.RegionTactic
import Derived.Deep.RegionHeld3
import Derived.Deep.DrawnRows
import Derived.Deep.AppendLies
import Derived.Laws.OwnMore
namespace Go.Proofs.YtkefdbnnfcfmjaaDoor.Walks
open Go.RowKit
open Go.Proofs.YtkefdbnnfcfmjaaDoor.Plain
set_option linter.unusedVariables false
attribute [local go_sem ↓] Go.wp_at_zero Go.wp_at_succ


theorem below_drawn {B : Nat} {a w : World} (h : Below B a w) (n : Nat) : Below B a (w.drewN n) := h.trans ⟨rfl, rfl, rfl, Nat.le_refl _, fun _ _ => rfl⟩
theorem owns_below {w w' : World} {base n size : Nat} {t : TypeId} {v : Value} {xs : List Value} (h : w.ownsRow base t size v n xs) (hb : Below w.heap.size w w') : w'.ownsRow base t size v n xs :=
  h.kept (row := none) (grown_of_below hb) (Classical.em _)
theorem held8 {W a : World} {b : Nat} {e : Ev} (hE : EvAt W b e) (h : Below W.heap.size W a) :
    a.cell? ⟨b, 0, none⟩ = some (.int .i64 e.kind) ∧ a.cell? ⟨b, 1, none⟩ = some (.int .i64 e.key) ∧ a.cell? ⟨b, 2, none⟩ = some (.int .i64 e.slot) ∧ a.cell? ⟨b, 3, none⟩ = some (.int .i64 e.gen) ∧ a.cell? ⟨b, 4, none⟩ = some (.bool e.good) ∧ a.cell? ⟨b, 5, none⟩ = some (.int .i64 e.req) ∧ a.cell? ⟨b, 6, none⟩ = some (.int .i64 e.be) ∧ a.cell? ⟨b, 7, none⟩ = some (.int .i64 e.wt) ∧ Below W.heap.size W a := by
  obtain ⟨h0, h1, h2, h3, h4, h5, h6, h7⟩ := (hE.below h hE.lt).all
  exact ⟨h0, h1, h2, h3, h4, h5, h6, h7, h⟩

theorem first_unlike (pk pkey pslot pgen : Int) (pgood : Bool) (preq pbe pwt : Int) (e : Ev) :
    (⟨pk, pkey, pslot, pgen, pgood, preq, pbe, pwt⟩ : Ev) = e ∨ (decide ((⟨pk, pkey, pslot, pgen, pgood, preq, pbe, pwt⟩ : Ev) = e) = false ∧
      ((pk == e.kind) = false ∨ pk = e.kind ∧ ((pkey == e.key) = false ∨ pkey = e.key ∧ ((pslot == e.slot) = false ∨ pslot = e.slot ∧ ((pgen == e.gen) = false ∨ pgen = e.gen ∧ ((pgood == e.good) = false ∨ pgood = e.good ∧ ((preq == e.req) = false ∨ preq = e.req ∧ ((pbe == e.be) = false ∨ pbe = e.be ∧ (pwt == e.wt) = false)))))))) := by
  obtain ⟨ek, ekey, eslot, egen, egood, ereq, ebe, ewt⟩ := e
  simp only [Ev.mk.injEq, beq_eq_false_iff_ne, decide_eq_false_iff_not]
  by_cases h0 : pk = ek <;> by_cases h1 : pkey = ekey <;> by_cases h2 : pslot = eslot <;> by_cases h3 : pgen = egen <;> by_cases h4 : pgood = egood <;> by_cases h5 : preq = ereq <;> by_cases h6 : pbe = ebe <;> by_cases h7 : pwt = ewt <;> simp [h0, h1, h2, h3, h4, h5, h6, h7]

theorem nums_map (e : Ev) (fs : List Fld) : (fs.map fun f => Value.int .i64 (e.num f.off)) = (e.nums fs).map (.int .i64) := by simp [Ev.nums]

set_option maxHeartbeats 1000000 in
theorem fault_some (e : Ev) (fs : List Fld) (w : World) (hf : flds e.kind = some fs) :
    Calls Tryd.prog 21 #[.agg #[.int .i64 e.kind, .int .i64 e.key, .int .i64 e.slot, .int .i64 e.gen, .bool e.good, .int .i64 e.req, .int .i64 e.be, .int .i64 e.wt]] w fun r w' => r = .returned (.int .i64 (fault e)) ∧ Below w.heap.size w w' := by
  have hlen := flds_len hf
  have HF : Hid (fault e = if fs.all e.within then (if e.clean fs then 0 else 3) else 2) := by unfold fault; rw [hf]; exact rfl
  go_enter Tryd.func21, Tryd.ntmps21
  go_wp2_with fail
  refine (nums_some e fs _ hf).mono ?_
  rintro r w0 ⟨v, lo, hi, rfl, hb, hv, hlo, hhi⟩
  have hE0 : EvAt w0 w.heap.size e := EvAt.below (heap_new w _) hb (by simp)
  rw [nums_map, show fs.length = (e.nums fs).length by simp [Ev.nums]] at hv
  rw [show (fs.map fun f => Value.int .i64 f.lo) = (fs.map (·.lo)).map (.int .i64) by simp, show fs.length = (fs.map (·.lo)).length by simp] at hlo
  rw [show (fs.map fun f => Value.int .i64 f.hi) = (fs.map (·.hi)).map (.int .i64) by simp, show fs.length = (fs.map (·.hi)).length by simp] at hhi
  obtain ⟨a, cap, rfl, hat⟩ := ints_one hv
  obtain ⟨al, capl, rfl, hatl⟩ := ints_one hlo
  obtain ⟨ah, caph, rfl, hath⟩ := ints_one hhi
  simp only [show (e.nums fs).length = fs.length by simp [Ev.nums], List.length_map] at *
  have HH : Hid (flds e.kind = some fs ∧ _ ∧ _ ∧ _ ∧ _) := ⟨hf, hat, hatl, hath, hv⟩
  clear hf hat hatl hath hv hlo hhi
  go_wp2
  go_loopw [7] (fun i wr => ∃ k : Nat, k ≤ fs.length ∧ i = .int .i64 k ∧ (fs.take k).all e.within = true ∧ Below w0.heap.size w0 wr) (fun i _ => fs.length - (intOf i).toNat)
  case atStart => exact ⟨0, Nat.zero_le _, rfl, rfl, Below.refl _ _⟩
  case round =>
    obtain ⟨k, hk, rfl, hall, hg⟩ := hrel
    have hbel : Below w.heap.size w wr := (((Below.refl w.heap.size w).alloc (Nat.le_refl _) _).trans (hb.mono (by simp))).trans (hg.mono (by have := hb.size; simp at this; omega))
    have HA : Hid (_ ∧ _) := ⟨hall, hbel⟩
    clear hall hbel
    by_cases hlt : k < fs.length
    · have hfk : fs[k]? = some fs[k] := List.getElem?_eq_getElem hlt
      have hto : fs.take (k + 1) = fs.take k ++ [fs[k]] := List.take_succ_eq_append_getElem hlt
      generalize fs[k] = f at *
      obtain ⟨g, rfl, g1, g2, c0, _⟩ := HH.out.2.1 k (e.num f.off) (by simp [Ev.nums, hfk])
      obtain ⟨g', rfl, g1', g2', c1, _⟩ := HH.out.2.2.1 k f.lo (by simp [hfk])
      obtain ⟨g'', rfl, g1'', g2'', c2, _⟩ := HH.out.2.2.2.1 k f.hi (by simp [hfk])
      rw [← hg.cell (p := ⟨g, k, none⟩) g2] at c0
      rw [← hg.cell (p := ⟨g', k, none⟩) g2'] at c1
      rw [← hg.cell (p := ⟨g'', k, none⟩) g2''] at c2
      have HT : Hid (_ ∧ _) := ⟨hfk, hto⟩
      clear hfk hto
      have hI0 : (0 : Int) ≤ (k : Int) := by omega
      have hI1 : (k : Int) < (fs.length : Int) := by omega
      have HI : Hid (e.within f = decide (f.lo ≤ e.num f.off ∧ e.num f.off ≤ f.hi)) := rfl
      by_cases hin : f.lo ≤ e.num f.off ∧ e.num f.off ≤ f.hi
      · go_wp2_with fail
        go_quiet ((go_at_call 35; exact Calls.quiet_of_same (in_yes _ _ _ _ hin.1 hin.2)))
        go_wp2
        go_roundw
        case rel =>
          refine ⟨k + 1, by omega, by go_num, ?_, below_drawn hg _⟩
          rw [HT.out.2, List.all_append, HA.out.1]
          simp [HI.out, hin]
        case measure => simp [intOf]; omega
      · go_wp2_with fail
        go_quiet ((go_at_call 35; exact Calls.quiet_of_same (in_no _ _ _ _ hin)))
        go_wp2
        go_ret
        refine ⟨?_, below_drawn HA.out.2 _⟩
        rw [HF.out, all_take _ fs k f HT.out.1 (by rw [HI.out]; simpa using hin)]; rfl
    · have : k = fs.length := by omega
      subst this
      rw [List.take_length] at HA
      have HF' := HF.out
      rw [HA.out.1] at HF'
      have HF2 : Hid (fault e = if e.clean fs then 0 else 3) := HF'
      clear HF' HF
      have hE := hE0.below hg hE0.lt
      obtain ⟨e0, e1, e2, e3, e4, e5, e6, e7⟩ := hE.all
      have hpc := puts_clean e fs HH.out.1 HA.out.1
      have hown : ∃ base, wr.ownsRow base 3 1 (Value.slice a fs.length cap) (e.nums fs).length ((e.nums fs).map (.int .i64)) := by
        have h := owns_below HH.out.2.2.2.2 hg
        rw [show (e.nums fs).length = fs.length by simp [Ev.nums]]
        exact ⟨_, h⟩
      obtain ⟨base, hown⟩ := hown
      have hcall := ev_any e.kind fs (e.nums fs) _ _ wr.drew HH.out.1 (by simp [Ev.nums]) hown
      generalize puts { Ev.zero with kind := e.kind } fs (e.nums fs) = p at *
      obtain ⟨pk, pkey, pslot, pgen, pgood, preq, pbe, pwt⟩ := p
      simp only [arr] at hcall
      have HP : Hid (_ ∧ _) := ⟨hpc, hcall⟩
      clear hpc hcall hown
      rcases first_unlike pk pkey pslot pgen pgood preq pbe pwt e with heq | ⟨hne, hd⟩
      · have hcl : e.clean fs = true := by rw [← HP.out.1, heq]; simp
        obtain ⟨ek, ekey, eslot, egen, egood, ereq, ebe, ewt⟩ := e
        cases heq
        dsimp only at *
        rw [hcl] at HF2
        clear hcl
        go_wp2_with fail
        go_region_held3 (fun w' => w'.cell? ⟨w.heap.size, 0, none⟩ = some (.int .i64 pk) ∧ w'.cell? ⟨w.heap.size, 1, none⟩ = some (.int .i64 pkey) ∧ w'.cell? ⟨w.heap.size, 2, none⟩ = some (.int .i64 pslot) ∧ w'.cell? ⟨w.heap.size, 3, none⟩ = some (.int .i64 pgen) ∧ w'.cell? ⟨w.heap.size, 4, none⟩ = some (.bool pgood) ∧ w'.cell? ⟨w.heap.size, 5, none⟩ = some (.int .i64 preq) ∧ w'.cell? ⟨w.heap.size, 6, none⟩ = some (.int .i64 pbe) ∧ w'.cell? ⟨w.heap.size, 7, none⟩ = some (.int .i64 pwt) ∧ Below wr.heap.size wr w') (first | exact held8 hE ((Below.refl _ _).drew) | exact held8 hE (below_of_drew hb1)) (first | (go_at_call 36; refine HP.out.2.mono ?_; rintro r w1 ⟨rfl, hb1⟩))
        go_wp2
        go_ret
        exact ⟨by rw [HF2.out]; rfl, HA.out.2.trans ((below_of_drew hb1).mono HA.out.2.size)⟩
      · have hcl : e.clean fs = false := by rw [← HP.out.1]; exact hne
        rw [hcl] at HF2
        clear hcl hne
        rcases hd with h0 | ⟨rfl, h0 | ⟨rfl, h0 | ⟨rfl, h0 | ⟨rfl, h0 | ⟨rfl, h0 | ⟨rfl, h0 | ⟨rfl, h0⟩⟩⟩⟩⟩⟩⟩
        all_goals
          go_wp2_with fail
          go_region_held3 (fun w' => w'.cell? ⟨w.heap.size, 0, none⟩ = some (.int .i64 e.kind) ∧ w'.cell? ⟨w.heap.size, 1, none⟩ = some (.int .i64 e.key) ∧ w'.cell? ⟨w.heap.size, 2, none⟩ = some (.int .i64 e.slot) ∧ w'.cell? ⟨w.heap.size, 3, none⟩ = some (.int .i64 e.gen) ∧ w'.cell? ⟨w.heap.size, 4, none⟩ = some (.bool e.good) ∧ w'.cell? ⟨w.heap.size, 5, none⟩ = some (.int .i64 e.req) ∧ w'.cell? ⟨w.heap.size, 6, none⟩ = some (.int .i64 e.be) ∧ w'.cell? ⟨w.heap.size, 7, none⟩ = some (.int .i64 e.wt) ∧ Below wr.heap.size wr w') (first | exact held8 hE ((Below.refl _ _).drew) | exact held8 hE (below_of_drew hb1)) (first | (go_at_call 36; refine HP.out.2.mono ?_; rintro r w1 ⟨rfl, hb1⟩))
          go_wp2
          go_ret
          exact ⟨by rw [HF2.out]; rfl, HA.out.2.trans ((below_of_drew hb1).mono HA.out.2.size)⟩

set_option maxHeartbeats 400000 in
theorem fault_none (e : Ev) (w : World) (hf : e.kind < 1 ∨ 7 < e.kind) (hn : flds e.kind = none) :
    Calls Tryd.prog 21 #[.agg #[.int .i64 e.kind, .int .i64 e.key, .int .i64 e.slot, .int .i64 e.gen, .bool e.good, .int .i64 e.req, .int .i64 e.be, .int .i64 e.wt]] w fun r w' => r = .returned (.int .i64 (fault e)) ∧ Below w.heap.size w w' := by
  have HF : Hid (fault e = 5) := by unfold fault; rw [hn]; exact rfl
  go_enter Tryd.func21, Tryd.ntmps21
  go_wp2_with fail
  refine (nums_none e _ hf).mono ?_
  rintro r w0 ⟨rfl, hb⟩
  go_wp2
  go_ret
  exact ⟨by rw [HF.out]; rfl, ((Below.refl _ _).alloc (Nat.le_refl _) _).trans (hb.mono (by simp))⟩

theorem fault_any (e : Ev) (w : World) :
    Calls Tryd.prog 21 #[.agg #[.int .i64 e.kind, .int .i64 e.key, .int .i64 e.slot, .int .i64 e.gen, .bool e.good, .int .i64 e.req, .int .i64 e.be, .int .i64 e.wt]] w fun r w' => r = .returned (.int .i64 (fault e)) ∧ Below w.heap.size w w' := by
  cases h : flds e.kind with
  | some fs => exact fault_some e fs w h
  | none =>
    refine fault_none e w ?_ h
    rcases flds_cases e.kind with ⟨h1, _⟩ | h1 | h1 | h1 | h1 | h1 | h1 | h1
    · exact h1
    all_goals (rw [h1] at h; simp [flds] at h)

end Go.Proofs.YtkefdbnnfcfmjaaDoor.Walks
