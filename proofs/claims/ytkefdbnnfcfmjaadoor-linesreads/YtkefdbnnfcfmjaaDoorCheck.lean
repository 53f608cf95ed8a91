/-
  The program's hasMore and Check: whatever the event, Check answers its fault. No condition.
-/
import Derived.Test.YtkefdbnnfcfmjaaDoorRows
import Derived.Test.YtkefdbnnfcfmjaaDoorChecked
import Derived.Test.YtkefdbnnfcfmjaaDoorFields
import Derived.WalkKit
import Derived.ProofKit
import Derived.Handy
import Derived.LoopTactic
import Derived.Below
import Derived.Laws.BitsAllLaws
import Derived.RegionTactic
import Derived.Deep.RegionHeld3
import Derived.Deep.DrawnRows
import Derived.Deep.AppendLies
import Derived.Laws.OwnMore
namespace Go.Proofs.YtkefdbnnfcfmjaaDoor.Walks
open Go.RowKit
open Go.Proofs.YtkefdbnnfcfmjaaDoor.Plain
set_option linter.unusedVariables false
attribute [local go_sem ↓] Go.wp_at_zero Go.wp_at_succ

/-- What the fields' slice is, and what lies in it: one form, with or without fields. -/
theorem own_one {w : World} {base b : Nat} {v : Value} {fs : List Fld} (h : w.ownsRow base 67 4 v fs.length (fs.flatMap (fcells b))) :
    ∃ a cap, v = .slice a fs.length cap ∧ ∀ k f, fs[k]? = some f → ∃ g, a = some ⟨g, 0, none⟩ ∧ base ≤ g ∧ g < w.heap.size ∧
      w.cell? ⟨g, k * 4, none⟩ = some (.pointer (pp b f)) ∧ w.cell? ⟨g, k * 4 + 1, none⟩ = some (.pointer (pq b f)) ∧ w.cell? ⟨g, k * 4 + 2, none⟩ = some (.int .i64 f.lo) ∧ w.cell? ⟨g, k * 4 + 3, none⟩ = some (.int .i64 f.hi) := by
  rcases own_form h with ⟨rfl, rfl⟩ | ⟨g, cap, rfl, h1, h2, h3⟩
  · exact ⟨none, 0, rfl, fun k f hf => by simp at hf⟩
  · exact ⟨_, cap, rfl, fun k f hf => ⟨g, rfl, h1, h2, h3 k f hf⟩⟩

theorem grown_trans {a b c : World} {row : Option Nat} (h : a.grownBy b row) (k : b.grownBy c row) : a.grownBy c row :=
  ⟨k.os.trans h.os, k.tape.trans h.tape, k.output.trans h.output, Nat.le_trans h.size k.size, fun i hi hne => (k.block i (Nat.lt_of_lt_of_le hi h.size) hne).trans (h.block i hi hne)⟩
theorem grown_of_below {a b : World} {row : Option Nat} (h : Below a.heap.size a b) : a.grownBy b row :=
  ⟨h.os, h.tape, h.output, h.size, fun i hi _ => h.block i hi⟩

theorem flds_len {k : Int} {fs : List Fld} (h : flds k = some fs) : fs.length ≤ 3 := by
  rcases flds_cases k with ⟨_, h'⟩ | rfl | rfl | rfl | rfl | rfl | rfl | rfl
  · rw [h'] at h; cases h
  all_goals (unfold flds at h; simp at h; subst h; simp)

set_option maxHeartbeats 400000 in
theorem more_any (e : Ev) (fs : List Fld) (w : World) (hf : flds e.kind = some fs) :
    Calls Tryd.prog 29 #[.agg #[.int .i64 e.kind, .int .i64 e.key, .int .i64 e.slot, .int .i64 e.gen, .bool e.good, .int .i64 e.req, .int .i64 e.be, .int .i64 e.wt]] w fun r w' => r = .returned (.bool (!e.clean fs)) ∧ Below w.heap.size w w' := by
  have hlen := flds_len hf
  go_enter Tryd.func29, Tryd.ntmps29
  go_wp2_with fail
  refine (fields_some w.heap.size e fs _ (heap_new w _) hf).mono ?_
  rintro r w0 ⟨v, rfl, hb, hown⟩
  obtain ⟨a, cap, rfl, hat⟩ := own_one hown
  have hE0 : EvAt w0 w.heap.size e := EvAt.below (heap_new w _) hb (by simp)
  have HH : Hid (flds e.kind = some fs ∧ _ ∧ _) := ⟨hf, hown, hat⟩
  clear hf hown hat
  go_wp2
  go_loopw [13] (fun i wr => ∃ k : Nat, k ≤ fs.length ∧ i = .int .i64 k ∧ EvAt wr w.heap.size (e.clear (fs.take k)) ∧ w0.grownBy wr (some w.heap.size)) (fun i _ => fs.length - (intOf i).toNat)
  case atStart => exact ⟨0, Nat.zero_le _, rfl, hE0, ⟨rfl, rfl, rfl, Nat.le_refl _, fun _ _ _ => rfl⟩⟩
  case round =>
    obtain ⟨k, hk, rfl, hE, hg⟩ := hrel
    by_cases hlt : k < fs.length
    · have hfk : fs[k]? = some fs[k] := List.getElem?_eq_getElem hlt
      have hto : fs.take (k + 1) = fs.take k ++ [fs[k]] := List.take_succ_eq_append_getElem hlt
      have hoff := flds_off HH.out.1 fs[k] (List.getElem_mem hlt)
      generalize fs[k] = f at *
      obtain ⟨g, rfl, g1, g2, c0, c1, c2, c3⟩ := HH.out.2.2 k f hfk
      have hgr : ∀ o, wr.cell? ⟨g, o, none⟩ = w0.cell? ⟨g, o, none⟩ := fun o => hg.cell_far ⟨g, o, none⟩ g2 (by simp at g1 ⊢; omega)
      rw [← hgr] at c0 c1 c2 c3
      have HT : Hid (_ ∧ _) := ⟨hfk, hto⟩
      clear hfk hto hgr
      have hsz := hg.size
      have hEl := hE.lt
      have hE' : ∀ x, EvAt (wr.alloc x) w.heap.size (e.clear (fs.take k)) := fun x => by unfold EvAt; rw [Below.heap_alloc _ _ _ hEl]; exact hE
      go_wp2_with fail
      refine (set_any w.heap.size f _ 0 _ (hE' _) hoff.1 hoff.2).mono ?_
      rintro r w1 ⟨rfl, hE1, hg1⟩
      go_wp2
      go_roundw
      case rel => exact ⟨k + 1, by omega, by go_num, by rw [HT.out.2, Ev.clear, List.foldl_append]; exact hE1, grown_trans (grown_trans hg (grown_of_below ((Below.refl _ _).alloc (Nat.le_refl _) _))) hg1⟩
      case measure => simp [intOf]; omega
    · have : k = fs.length := by omega
      subst this
      rw [List.take_length] at hE
      have hbel : Below w.heap.size w wr := (((Below.refl w.heap.size w).alloc (Nat.le_refl _) _).trans (hb.mono (by simp))).grown hg (by have := hb.size; simp at this; omega) (by intro k hk; cases hk; exact Nat.le_refl _)
      have hfz := hE.frozen 0
      have h0 : wr.cell? ⟨w.heap.size, 0, none⟩ = some (.int .i64 (e.clear fs).kind) := hE.cell 0
      have h1 : wr.cell? ⟨w.heap.size, 1, none⟩ = some (.int .i64 (e.clear fs).key) := hE.cell 1
      have h2 : wr.cell? ⟨w.heap.size, 2, none⟩ = some (.int .i64 (e.clear fs).slot) := hE.cell 2
      have h3 : wr.cell? ⟨w.heap.size, 3, none⟩ = some (.int .i64 (e.clear fs).gen) := hE.cell 3
      have h4 : wr.cell? ⟨w.heap.size, 4, none⟩ = some (.bool (e.clear fs).good) := hE.cell 4
      have h5 : wr.cell? ⟨w.heap.size, 5, none⟩ = some (.int .i64 (e.clear fs).req) := hE.cell 5
      have h6 : wr.cell? ⟨w.heap.size, 6, none⟩ = some (.int .i64 (e.clear fs).be) := hE.cell 6
      have h7 : wr.cell? ⟨w.heap.size, 7, none⟩ = some (.int .i64 (e.clear fs).wt) := hE.cell 7
      have HC : Hid (e.clean fs = decide ({ e.clear fs with kind := 0 } = Ev.zero)) := rfl
      generalize e.clear fs = c at *
      go_wp2
      all_goals
        go_ret
        refine ⟨?_, hbel.setCell (Nat.le_refl _) _⟩
        rw [HC.out]
        simp [Ev.zero, *]

theorem EvAt.all {w : World} {b : Nat} {e : Ev} (h : EvAt w b e) : w.cell? ⟨b, 0, none⟩ = some (.int .i64 e.kind) ∧ w.cell? ⟨b, 1, none⟩ = some (.int .i64 e.key) ∧ w.cell? ⟨b, 2, none⟩ = some (.int .i64 e.slot) ∧ w.cell? ⟨b, 3, none⟩ = some (.int .i64 e.gen) ∧ w.cell? ⟨b, 4, none⟩ = some (.bool e.good) ∧ w.cell? ⟨b, 5, none⟩ = some (.int .i64 e.req) ∧ w.cell? ⟨b, 6, none⟩ = some (.int .i64 e.be) ∧ w.cell? ⟨b, 7, none⟩ = some (.int .i64 e.wt) :=
  ⟨h.cell 0, h.cell 1, h.cell 2, h.cell 3, h.cell 4, h.cell 5, h.cell 6, h.cell 7⟩

theorem below_tr {W a b : World} (h : Below W.heap.size W a) (k : Below a.heap.size a b) : Below W.heap.size W b := h.trans (k.mono h.size)
theorem below_of_drew {W a : World} (h : Below W.drew.heap.size W.drew a) : Below W.heap.size W a := ⟨h.os, h.tape, h.output, h.size, h.block⟩
theorem held4 {W a : World} {B : Nat} {v0 v1 v2 v3 : Value} (n0 : W.cell? ⟨B, 0, none⟩ = some v0) (n1 : W.cell? ⟨B, 1, none⟩ = some v1) (n2 : W.cell? ⟨B, 2, none⟩ = some v2) (n3 : W.cell? ⟨B, 3, none⟩ = some v3) (h : Below W.heap.size W a) :
    a.cell? ⟨B, 0, none⟩ = some v0 ∧ a.cell? ⟨B, 1, none⟩ = some v1 ∧ a.cell? ⟨B, 2, none⟩ = some v2 ∧ a.cell? ⟨B, 3, none⟩ = some v3 ∧ Below W.heap.size W a := by
  have hl : B < W.heap.size := World.block_lt_of_cell? W ⟨B, 0, none⟩ n0
  exact ⟨by rw [h.cell hl]; exact n0, by rw [h.cell hl]; exact n1, by rw [h.cell hl]; exact n2, by rw [h.cell hl]; exact n3, h⟩

theorem all_take {α : Type} (p : α → Bool) (l : List α) (k : Nat) (x : α) (h : l[k]? = some x) (hp : p x = false) : l.all p = false := by
  rw [Bool.eq_false_iff]; intro ha
  rw [List.all_eq_true] at ha
  have := ha x (List.mem_of_getElem? h)
  rw [hp] at this; cases this

set_option maxHeartbeats 400000 in
theorem check_some (e : Ev) (fs : List Fld) (w : World) (hf : flds e.kind = some fs) :
    Calls Tryd.prog 17 #[.agg #[.int .i64 e.kind, .int .i64 e.key, .int .i64 e.slot, .int .i64 e.gen, .bool e.good, .int .i64 e.req, .int .i64 e.be, .int .i64 e.wt]] w fun r w' => r = .returned (.int .i64 (fault e)) ∧ Below w.heap.size w w' := by
  have hlen := flds_len hf
  have HF : Hid (fault e = if fs.all e.within then (if e.clean fs then 0 else 3) else 2) := by unfold fault; rw [hf]; exact rfl
  go_enter Tryd.func17, Tryd.ntmps17
  go_wp2_with fail
  refine (fields_some w.heap.size e fs _ (heap_new w _) hf).mono ?_
  rintro r w0 ⟨v, rfl, hb, hown⟩
  obtain ⟨a, cap, rfl, hat⟩ := own_one hown
  have hE0 : EvAt w0 w.heap.size e := EvAt.below (heap_new w _) hb (by simp)
  have HH : Hid (flds e.kind = some fs ∧ _ ∧ _) := ⟨hf, hown, hat⟩
  clear hf hown hat
  go_wp2
  go_loopw [15] (fun i wr => ∃ k : Nat, k ≤ fs.length ∧ i = .int .i64 k ∧ (fs.take k).all e.within = true ∧ Below w0.heap.size w0 wr) (fun i _ => fs.length - (intOf i).toNat)
  case atStart => exact ⟨0, Nat.zero_le _, rfl, rfl, Below.refl _ _⟩
  case round =>
    obtain ⟨k, hk, rfl, hall, hg⟩ := hrel
    have hbel : Below w.heap.size w wr := (((Below.refl w.heap.size w).alloc (Nat.le_refl _) _).trans (hb.mono (by simp))).trans (hg.mono (by have := hb.size; simp at this; omega))
    have HA : Hid (_ ∧ _) := ⟨hall, hbel⟩
    clear hall hbel
    by_cases hlt : k < fs.length
    · have hfk : fs[k]? = some fs[k] := List.getElem?_eq_getElem hlt
      have hto : fs.take (k + 1) = fs.take k ++ [fs[k]] := List.take_succ_eq_append_getElem hlt
      have hoff := flds_off HH.out.1 fs[k] (List.getElem_mem hlt)
      generalize fs[k] = f at *
      obtain ⟨g, rfl, g1, g2, c0, c1, c2, c3⟩ := HH.out.2.2 k f hfk
      have hgr : ∀ o, wr.cell? ⟨g, o, none⟩ = w0.cell? ⟨g, o, none⟩ := fun o => hg.cell (p := ⟨g, o, none⟩) g2
      rw [← hgr] at c0 c1 c2 c3
      have HT : Hid (_ ∧ _) := ⟨hfk, hto⟩
      clear hfk hto hgr
      have hsz := hg.size
      have hEl := hE0.lt
      have hE := hE0.below hg hEl
      have hE' : ∀ x, EvAt (wr.alloc x) w.heap.size e := fun x => by unfold EvAt; rw [Below.heap_alloc _ _ _ (by omega)]; exact hE
      go_wp2_with fail
      obtain ⟨W, hW⟩ : ∃ W, W = wr.alloc (Obj.cells #[Value.pointer (pp w.heap.size f), Value.pointer (pq w.heap.size f), Value.int IntKind.i64 f.lo, Value.int IntKind.i64 f.hi] 67) := ⟨_, rfl⟩
      have n0 : W.cell? ⟨wr.heap.size, 0, none⟩ = some (.pointer (pp w.heap.size f)) := by rw [hW]; simp
      have n1 : W.cell? ⟨wr.heap.size, 1, none⟩ = some (.pointer (pq w.heap.size f)) := by rw [hW]; simp
      have n2 : W.cell? ⟨wr.heap.size, 2, none⟩ = some (.int .i64 f.lo) := by rw [hW]; simp
      have n3 : W.cell? ⟨wr.heap.size, 3, none⟩ = some (.int .i64 f.hi) := by rw [hW]; simp
      have hEW : EvAt W w.heap.size e := by rw [hW]; exact hE' _
      have hBW : Below w0.heap.size w0 W := by rw [hW]; exact hg.alloc hsz _
      rw [← hW]
      have HHW : Hid (_ ∧ _) := ⟨hW, hE'⟩
      clear hW hE'
      have HI : Hid (e.within f = decide (f.lo ≤ e.num f.off ∧ e.num f.off ≤ f.hi)) := rfl
      by_cases hin : f.lo ≤ e.num f.off ∧ e.num f.off ≤ f.hi
      · go_region_held3 (fun w' => w'.cell? ⟨wr.heap.size, 0, none⟩ = some (.pointer (pp w.heap.size f)) ∧ w'.cell? ⟨wr.heap.size, 1, none⟩ = some (.pointer (pq w.heap.size f)) ∧ w'.cell? ⟨wr.heap.size, 2, none⟩ = some (.int .i64 f.lo) ∧ w'.cell? ⟨wr.heap.size, 3, none⟩ = some (.int .i64 f.hi) ∧ Below W.heap.size W w') (first | exact held4 n0 n1 n2 n3 ((Below.refl _ _).drew) | exact held4 n0 n1 n2 n3 (below_tr (below_of_drew hb1) hb2) | exact held4 n0 n1 n2 n3 (below_of_drew hb1))
          (first | (go_at_call 28; refine (get_any w.heap.size f e W.drew hEW hoff.1 hoff.2).mono ?_; rintro r w1 ⟨rfl, hb1⟩) | (go_at_call 27; refine (within_yes _ _ f.lo f.hi (e.num f.off) w1 hin.1 hin.2).mono ?_; rintro r w2 ⟨rfl, hb2⟩))
        go_wp2
        go_roundw
        case rel =>
          refine ⟨k + 1, by omega, by go_num, ?_, hBW.trans ((below_tr (below_of_drew hb1) hb2).mono hBW.size)⟩
          rw [HT.out.2, List.all_append, HA.out.1]
          simp [HI.out, hin]
        case measure => simp [intOf]; omega
      · go_region_held3 (fun w' => w'.cell? ⟨wr.heap.size, 0, none⟩ = some (.pointer (pp w.heap.size f)) ∧ w'.cell? ⟨wr.heap.size, 1, none⟩ = some (.pointer (pq w.heap.size f)) ∧ w'.cell? ⟨wr.heap.size, 2, none⟩ = some (.int .i64 f.lo) ∧ w'.cell? ⟨wr.heap.size, 3, none⟩ = some (.int .i64 f.hi) ∧ Below W.heap.size W w') (first | exact held4 n0 n1 n2 n3 ((Below.refl _ _).drew) | exact held4 n0 n1 n2 n3 (below_tr (below_of_drew hb1) hb2) | exact held4 n0 n1 n2 n3 (below_of_drew hb1))
          (first | (go_at_call 28; refine (get_any w.heap.size f e W.drew hEW hoff.1 hoff.2).mono ?_; rintro r w1 ⟨rfl, hb1⟩) | (go_at_call 27; refine (within_no _ _ f.lo f.hi (e.num f.off) w1 hin).mono ?_; rintro r w2 ⟨rfl, hb2⟩))
        go_wp2
        go_ret
        refine ⟨?_, ?_⟩
        · rw [HF.out, all_take _ fs k f HT.out.1 (by rw [HI.out]; simpa using hin)]; rfl
        · exact HA.out.2.trans ((((Below.refl wr.heap.size wr).alloc (Nat.le_refl _) _).trans (HHW.out.1 ▸ (below_tr (below_of_drew hb1) hb2).mono (by rw [HHW.out.1]; simp))).mono HA.out.2.size)
    · have : k = fs.length := by omega
      subst this
      rw [List.take_length] at HA
      have HF' := HF.out
      rw [HA.out.1] at HF'
      have HF2 : Hid (fault e = if e.clean fs then 0 else 3) := HF'
      clear HF' HF
      have hE := hE0.below hg hE0.lt
      obtain ⟨e0, e1, e2, e3, e4, e5, e6, e7⟩ := hE.all
      go_wp2_with fail
      refine (more_any e fs _ HH.out.1).mono ?_
      rintro r w1 ⟨rfl, hb1⟩
      have HB : Hid (Below w.heap.size w w1) := HA.out.2.trans (hb1.mono HA.out.2.size)
      cases hcl : e.clean fs
      all_goals
        rw [hcl] at HF2
        go_wp2
        go_ret
        exact ⟨by rw [HF2.out]; rfl, HB.out⟩

set_option maxHeartbeats 400000 in
theorem check_none (e : Ev) (w : World) (hf : e.kind < 1 ∨ 7 < e.kind) (hn : flds e.kind = none) :
    Calls Tryd.prog 17 #[.agg #[.int .i64 e.kind, .int .i64 e.key, .int .i64 e.slot, .int .i64 e.gen, .bool e.good, .int .i64 e.req, .int .i64 e.be, .int .i64 e.wt]] w fun r w' => r = .returned (.int .i64 (fault e)) ∧ Below w.heap.size w w' := by
  have HF : Hid (fault e = 5) := by unfold fault; rw [hn]; exact rfl
  go_enter Tryd.func17, Tryd.ntmps17
  go_wp2_with fail
  refine (fields_none w.heap.size e _ (heap_new w _) hf).mono ?_
  rintro r w0 ⟨rfl, rfl⟩
  go_wp2
  go_ret
  exact ⟨by rw [HF.out]; rfl, (Below.refl _ _).alloc (Nat.le_refl _) _⟩

theorem check_any (e : Ev) (w : World) :
    Calls Tryd.prog 17 #[.agg #[.int .i64 e.kind, .int .i64 e.key, .int .i64 e.slot, .int .i64 e.gen, .bool e.good, .int .i64 e.req, .int .i64 e.be, .int .i64 e.wt]] w fun r w' => r = .returned (.int .i64 (fault e)) ∧ Below w.heap.size w w' := by
  cases h : flds e.kind with
  | some fs => exact check_some e fs w h
  | none =>
    refine check_none e w ?_ h
    rcases flds_cases e.kind with ⟨h1, _⟩ | h1 | h1 | h1 | h1 | h1 | h1 | h1
    · exact h1
    all_goals (rw [h1] at h; simp [flds] at h)
end Go.Proofs.YtkefdbnnfcfmjaaDoor.Walks
