/-
  A timer is put at its place: into the list, in order, and into the map of places. The wheel at work is whole, the timer fits, the list is parted by it.
-/
import Derived.Test.YtdfjobghgbcjpaaDoorFollow
import Derived.Deep.CutRange
import Derived.Deep.RegionWith
import Derived.WalkKit
import Derived.ProofKit
import Derived.Handy
import Derived.LoopTactic
import Derived.Below
import Derived.Laws.BitsAllLaws
import Derived.RegionTactic
import Derived.Deep.RegionHeld3
import Derived.Deep.DrawnRows
import Derived.Deep.AppendLies
import Derived.Laws.OwnMore
import Derived.Deep.Onto
import Derived.Deep.QuietTactic
import Derived.BigQuiet
namespace Go.Proofs.YtdfjobghgbcjpaaDoor.Walks
open Go.RowKit
set_option linter.unusedVariables false
set_option linter.unusedSimpArgs false
attribute [local go_sem ↓] Go.wp_at_zero Go.wp_at_succ
open Go.Sort (grow grow_empty grow_grow alloc_eq_grow cell?_grow heap_grow_old)

/-- A list takes another's place. -/
theorem OwnLs.put {w w1 : World} {base B n cap : Nat} {vs : List Value} {ls : List (List Tm)} (h : OwnLs w base (.slice (some ⟨B, 0, none⟩) n cap) vs ls) (hn : ls.length = n) {i : Nat} (hi : i < ls.length) {u u' : Value} (hu : vs[i]? = some u) {l' : List Tm}
    (hg : w.grownBy w1 u.ownBlock) (hu' : w1.ownsRow base 45 2 u' l'.length (tcells l')) (hl : ∀ g, u'.ownBlock = some g → u.ownBlock = some g ∨ w.heap.size ≤ g) :
    OwnLs (w1.setCell ⟨B, i, none⟩ u') base (.slice (some ⟨B, 0, none⟩) n cap) (vs.set i u') (ls.set i l') := by
  have hlen := h.each.1
  have hiv : i < vs.length := by omega
  have hpw := List.pairwise_cons.1 h.apart
  have hui : vs[i] = u := by rw [List.getElem?_eq_getElem hiv] at hu; exact Option.some.inj hu
  have hBu : u.ownBlock ≠ some B := fun e => hpw.1 u (by rw [← hui]; exact List.getElem_mem hiv) B rfl e
  have hpair := List.pairwise_iff_getElem.1 hpw.2
  have hne : ∀ j (hj : j < vs.length), j ≠ i → ∀ g, vs[j].ownBlock = some g → u.ownBlock ≠ some g := fun j hj hji g hg' e => by
    rcases Nat.lt_or_gt_of_ne hji with h1 | h1
    · exact hpair j i hj hiv h1 g hg' (by rw [hui]; exact e)
    · exact hpair i j hiv hj h1 g (by rw [hui]; exact e) hg'
  have hBlt := (h.row.lt B rfl).2
  have hold : ∀ j (hj : j < vs.length) g, vs[j].ownBlock = some g → base ≤ g ∧ g < w.heap.size := fun j hj g hg' => (h.each.2 j hj (by omega)).lt g hg'
  have hu'B : ∀ g, u'.ownBlock = some g → g ≠ B := fun g hg' e => by
    rcases hl g hg' with h1 | h1
    · rw [e] at h1; exact hBu h1
    · omega
  have hrow1 : w1.ownsRow base 38 1 (.slice (some ⟨B, 0, none⟩) n cap) n vs := by
    have h1 := h.row
    rw [hn] at h1
    exact h1.kept hg (.inr (fun e => hBu e.symm))
  have hrow2 := (hrow1.stored i u').1
  refine ⟨by rw [List.length_set, hn]; exact hrow2, ⟨by simp [hlen], fun j h1 h2 => ?_⟩, ?_⟩
  · by_cases hji : j = i
    · subst hji
      simp only [List.getElem_set_self]
      exact own_block hu' fun g hg' => Below.heap_setCell _ _ _ _ (hu'B g hg')
    · rw [List.getElem_set_ne (Ne.symm hji), List.getElem_set_ne (Ne.symm hji)]
      have hj : j < vs.length := by simpa using h1
      refine own_block (h.each.2 j hj (by omega)) fun g hg' => ?_
      rw [Below.heap_setCell _ _ _ _ (fun e => hpw.1 vs[j] (List.getElem_mem hj) B rfl (by rw [hg']; exact congrArg some e))]
      exact hg.block g (hold j hj g hg').2 (fun e => hne j hj hji g hg' e.symm)
  · refine List.pairwise_cons.2 ⟨fun x hx g hg' e => ?_, List.pairwise_iff_getElem.2 fun a b ha hb hab g hga e => ?_⟩
    · obtain ⟨j, hj, rfl⟩ := List.getElem_of_mem hx
      have hgB : g = B := (Option.some.inj hg').symm
      by_cases hji : j = i
      · subst hji
        simp only [List.getElem_set_self] at e
        exact hu'B g e hgB
      · rw [List.getElem_set_ne (Ne.symm hji)] at e
        exact hpw.1 _ (List.getElem_mem (by simpa using hj)) g hg' e
    · have ha' : a < vs.length := by simpa using ha
      have hb' : b < vs.length := by simpa using hb
      by_cases hai : a = i
      · subst hai
        simp only [List.getElem_set_self] at hga
        rw [List.getElem_set_ne (by omega)] at e
        rcases hl g hga with h1 | h1
        · exact hne b hb' (by omega) g e h1
        · have := (hold b hb' g e).2; omega
      · rw [List.getElem_set_ne (Ne.symm hai)] at hga
        by_cases hbi : b = i
        · subst hbi
          simp only [List.getElem_set_self] at e
          rcases hl g e with h1 | h1
          · exact hne a ha' hai g hga h1
          · have := (hold a ha' g hga).2; omega
        · rw [List.getElem_set_ne (Ne.symm hbi)] at e
          exact hpair a b ha' hb' hab g hga e

def putF (f : Int → Option Int) (id x k : Int) : Option Int := if k = id then some x else f k

/-- A place is noted. -/
theorem MapAt.put {w : World} {b n : Nat} {f : Int → Option Int} (h : MapAt w b n f) (hn : n < maxLen) {id x : Int} (hid : (Lit.int .i64 id).wf = true) (hx : (Lit.int .i64 x).wf = true) :
    ∃ w', (Instr.mapUpdate 39 (.map (some b)) (.int .i64 id) (.int .i64 x)).run Tryd.prog w = .ok () w' ∧ MapAt w' b (n + 1) (putF f id x) ∧ w.grownBy w' (some b) := by
  obtain ⟨D, hown, hf⟩ := h
  obtain ⟨w', hr, ho, hg⟩ := hown.update law3 Tryd.underlying39 hn (Go.Maps.keyOf_int_mk Tryd.underlying3 hid) (plainElem_int Tryd.underlying3 hx)
  refine ⟨w', hr, ⟨_, ho, fun k hk => ?_⟩, hg⟩
  have hm : Maps.IsMap D := by obtain ⟨es, clock, _, _, _, rfl⟩ := hown; exact ⟨_, rfl⟩
  by_cases e : k = id
  · subst e
    unfold putF
    rw [if_pos rfl]
    refine ⟨Maps.has_put_same (k := .int .i64 k) hm trivial _, fun y hy => ?_⟩
    rw [Maps.atKey_put_same (k := .int .i64 k) hm trivial, Option.some.inj hy]
  · unfold putF
    rw [if_neg e]
    have hne : Lit.int .i64 k ≠ Lit.int .i64 id := fun h => e (by cases h; rfl)
    rw [Maps.has_put_other hne, Maps.atKey_put_other hne]
    exact hf k hk

theorem held5 {w w' : World} {a1 a2 a3 a4 : Addr} {v1 v2 v3 v4 : Value} (h1 : w.cell? a1 = some v1) (h2 : w.cell? a2 = some v2) (h3 : w.cell? a3 = some v3) (h4 : w.cell? a4 = some v4) (hf : w.frozen? a2 = false)
    (e1 : w'.heap[a1.block]? = w.heap[a1.block]?) (e2 : w'.heap[a2.block]? = w.heap[a2.block]?) (e3 : w'.heap[a3.block]? = w.heap[a3.block]?) (e4 : w'.heap[a4.block]? = w.heap[a4.block]?) :
    w'.cell? a1 = some v1 ∧ w'.cell? a2 = some v2 ∧ w'.cell? a3 = some v3 ∧ w'.cell? a4 = some v4 ∧ w'.frozen? a2 = false :=
  ⟨(World.cell?_of_block e1).trans h1, (World.cell?_of_block e2).trans h2, (World.cell?_of_block e3).trans h3, (World.cell?_of_block e4).trans h4, (World.frozen?_of_block e2).trans hf⟩

theorem OwnLs.kept {w w' : World} {base : Nat} {v : Value} {vs : List Value} {ls : List (List Tm)} {row : Option Nat} (h : OwnLs w base v vs ls) (hg : w.grownBy w' row) (ho : ∀ u ∈ v :: vs, ∀ g, u.ownBlock = some g → some g ≠ row) : OwnLs w' base v vs ls := by
  refine ⟨own_block h.row fun g hg' => hg.block g (h.row.lt g hg').2 (ho v (List.mem_cons_self ..) g hg'), ⟨h.each.1, fun i h1 h2 => ?_⟩, h.apart⟩
  have hu := h.each.2 i h1 h2
  exact own_block hu fun g hg' => hg.block g (hu.lt g hg').2 (ho _ (List.mem_cons_of_mem _ (List.getElem_mem h1)) g hg')

/-- A block that the wheel at work does not touch. -/
def Free (w : World) (vs : List Value) (T B M g : Nat) : Prop := g < w.heap.size ∧ g ≠ T ∧ g ≠ B ∧ g ≠ M ∧ ∀ u ∈ vs, u.ownBlock ≠ some g

theorem cell_other {w : World} {a b : Addr} {v u : Value} (h : w.cell? a = some v) (hne : a.block ≠ b.block) : (w.setCell b u).cell? a = some v :=
  (World.cell?_of_block (Below.heap_setCell w b u _ hne)).trans h

set_option maxHeartbeats 4000000 in
set_option maxRecDepth 100000 in
theorem put_any (base T B M n : Nat) (now : Int) (vs : List Value) (ls : List (List Tm)) (f : Int → Option Int) (ta td : Int) (i j : Nat) (w : World) (hB : Blk w) (hT : Turn w base T B M n now vs ls f) (hb0 : 0 < base) (hbase : base ≤ w.heap.size) (hn : 0 ≤ now) (hn2 : now ≤ 1099511627776) (hnn : n < maxLen)
    (hi : i < 25) (hta : 0 ≤ ta ∧ ta ≤ 4398046511104) (htd : (Lit.int .i64 td).wf = true) (hpl : placeOf ta now = i) (l : List Tm) (hl : ls[i]? = some l) (hll : l.length ≤ 1048576) (hj : j ≤ l.length)
    (h1 : ∀ k (hk : k < l.length), k < j → cmpT l[k] (ta, td) < 0) (h2 : ∀ k (hk : k < l.length), j ≤ k → ¬ cmpT l[k] (ta, td) < 0) :
    Calls Tryd.prog 18 #[.pointer (some ⟨T, 0, none⟩), .agg #[.int .i64 ta, .int .i64 td]] w fun r w' => r = .returned (.tuple #[]) ∧ ∃ vs', Turn w' base T B M (n + 1) now vs' (ls.set i (insAt l (ta, td) j)) (putF f td i) ∧ Below base w w' ∧ ∀ g, Free w vs T B M g → w'.heap[g]? = w.heap[g]? ∧ Free w' vs' T B M g := by
  have mixed := mixed
  obtain ⟨t0, t1, t2, tlt⟩ := three_cells hT.box
  have hi' : i < ls.length := by rw [hT.len]; exact hi
  obtain ⟨u, hu, hown⟩ := own_at hT.own i hi'
  have hlc := lists_cell hT.own hT.len i hi' u hu
  have hl0 := hl
  rw [List.getElem?_eq_getElem hi'] at hl
  rw [Option.some.inj hl] at hown
  have hBlt : B < w.heap.size := (hT.own.row.lt B rfl).2
  obtain ⟨w2, hw2⟩ : ∃ w2, w2 = w.alloc (.cells #[.int .i64 ta, .int .i64 td] 45) := ⟨_, rfl⟩
  have hbw : Below w.heap.size w w2 := by rw [hw2]; exact (Below.refl _ _).alloc (Nat.le_refl _) _
  have hlt : w.heap.size < w2.heap.size := by rw [hw2]; simp
  have tlt2 : T < w2.heap.size := by omega
  have Blt2 : B < w2.heap.size := by omega
  have c1 : w2.cell? ⟨w.heap.size, 0, none⟩ = some (.int .i64 ta) := by rw [hw2]; simp
  have c2 : w2.cell? ⟨w.heap.size, 1, none⟩ = some (.int .i64 td) := by rw [hw2]; simp
  have c3 : w2.cell? ⟨T, 0, none⟩ = some (.int .i64 now) := (hbw.cell (p := ⟨T, 0, none⟩) tlt).trans t0
  have c4 : w2.cell? ⟨T, 1, none⟩ = some (.slice (some ⟨B, 0, none⟩) 25 25) := (hbw.cell (p := ⟨T, 1, none⟩) tlt).trans t1
  have c5 : w2.cell? ⟨B, i, none⟩ = some u := (hbw.cell (p := ⟨B, i, none⟩) hBlt).trans hlc
  have HPl : Hid (∀ q, Calls Tryd.prog 30 #[.int .i64 ta, .int .i64 now] (w2.drewN q) fun e w' => e = .returned (.int .i64 (i : Int)) ∧ ∃ m, w' = (w2.drewN q).drewN m) := fun q => by
    rw [← hpl]; exact place_any ta now _ ((hB.below hbw).drewN q) hta.1 hta.2 hn (by omega)
  have HT : Hid (_ ∧ _ ∧ _ ∧ _ ∧ _ ∧ _) := ⟨hT, hown, hbw, h1, h2, hl0⟩
  have HW : Hid _ := hw2
  obtain ⟨p, c, rfl⟩ := own_form hown
  clear hT hown hbw h1 h2 hw2 hB t0 t1 t2 hl hl0 hlc hpl
  have hiI : (i : Int) < 25 := by omega
  go_enter Tryd.func18, Tryd.ntmps18
  go_wp2_with fail
  rw [← HW.out]
  go_quiet ((go_at_call 30; exact Calls.quiet_of (HPl.out _)))
  have hb3 : Below w2.heap.size w2 (w2.drewN nq) := below_drewN (Below.refl _ _) nq
  generalize w2.drewN nq = w3 at hb3 ⊢
  have d1 := (hb3.cell (p := ⟨w.heap.size, 0, none⟩) hlt).trans c1
  have d2 := (hb3.cell (p := ⟨w.heap.size, 1, none⟩) hlt).trans c2
  have d4 := (hb3.cell (p := ⟨T, 1, none⟩) tlt2).trans c4
  have d5 := (hb3.cell (p := ⟨B, i, none⟩) Blt2).trans c5
  have hbw3 : Below w.heap.size w w3 := HT.out.2.2.1.trans (hb3.mono HT.out.2.2.1.size)
  have HD : Hid (_ ∧ _) := ⟨hb3, hbw3⟩
  clear hb3 hbw3 c1 c2 c3 c4 c5
  have hsearch : ∀ W : World, Below w3.heap.size w3 W → Calls Tryd.prog 31 #[.slice p l.length c, .agg #[.int .i64 ta, .int .i64 td], .func (.func 32) #[] #[]] W fun r w' => ∃ b, r = .returned (.tuple #[.int .i64 j, .bool b]) ∧ Below W.heap.size W w' := fun W hW =>
    search_any _ l ta td j W (rowAt_own (own_block HT.out.2.1 fun g hg => (hW.block g (Nat.lt_of_lt_of_le (HT.out.2.1.lt g hg).2 HD.out.2.size)).trans (HD.out.2.block g (HT.out.2.1.lt g hg).2))) hj HT.out.2.2.2.1 (fun k hk hjk => by have := HT.out.2.2.2.2.1 k hk hjk; omega) (by omega)
  have HS : Hid _ := hsearch
  clear hsearch
  go_wp2_with fail
  go_region_held3 (fun W => W.cell? ⟨w.heap.size, 0, none⟩ = some (.int .i64 ta) ∧ W.cell? ⟨w.heap.size, 1, none⟩ = some (.int .i64 td) ∧ W.cell? ⟨T, 1, none⟩ = some (.slice (some ⟨B, 0, none⟩) 25 25) ∧ W.cell? ⟨B, i, none⟩ = some (.slice p l.length c) ∧ Below w3.heap.size w3 W) (first | exact heldAny d1 d2 d4 d5 ((Below.refl _ _).drew) | exact heldAny d1 d2 d4 d5 (below_of_drew hb1)) (first | (go_at_call 31; refine (HS.out _ ((Below.refl _ _).drew)).mono ?_; rintro r w1 ⟨bb, rfl, hb1⟩))
  have hb4 : Below w.heap.size w w1 := HD.out.2.trans ((below_of_drew hb1).mono HD.out.2.size)
  have hb4' : Below w3.heap.size w3 w1 := below_of_drew hb1
  have hT4 := HT.out.1.below hb4
  have hown4 := own_block HT.out.2.1 fun g hg => hb4.block g (HT.out.2.1.lt g hg).2
  have hs4 := hb4.size
  have hs3 := hb4'.size
  have hlt3 : w.heap.size < w3.heap.size := Nat.lt_of_lt_of_le hlt HD.out.1.size
  have e1 := (hb4'.cell (p := ⟨w.heap.size, 0, none⟩) hlt3).trans d1
  have e2 := (hb4'.cell (p := ⟨w.heap.size, 1, none⟩) hlt3).trans d2
  have e4 := (hb4.cell (p := ⟨T, 1, none⟩) tlt).trans (three_cells HT.out.1.box).2.1
  have e5 := (hb4'.cell (p := ⟨B, i, none⟩) (Nat.lt_of_lt_of_le Blt2 HD.out.1.size)).trans d5
  have e6 : w1.frozen? ⟨B, i, none⟩ = false := by
    have h25 := hT4.own.row
    rw [hT4.len] at h25
    exact h25.frozenAt i
  have hkT : (Value.slice p l.length c).ownBlock ≠ some T := HT.out.1.offT _ (List.mem_cons_of_mem _ (List.mem_of_getElem? hu))
  have hkM : (Value.slice p l.length c).ownBlock ≠ some M := HT.out.1.offM _ (List.mem_cons_of_mem _ (List.mem_of_getElem? hu))
  have hkB : (Value.slice p l.length c).ownBlock ≠ some B := fun e => (List.pairwise_cons.1 HT.out.1.own.apart).1 _ (List.mem_of_getElem? hu) B rfl e
  have hkK : (Value.slice p l.length c).ownBlock ≠ some w.heap.size := fun e => by have := (HT.out.2.1.lt _ e).2; omega
  have hkN : (Value.slice p l.length c).ownBlock ≠ some w1.heap.size := fun e => by have := (HT.out.2.1.lt _ e).2; omega
  obtain ⟨W0, hW0⟩ : ∃ W0, W0 = (w1.alloc (.cells #[.int .i64 ta, .int .i64 td] 45)).drew := ⟨_, rfl⟩
  have hbW0 : Below w1.heap.size w1 W0 := by rw [hW0]; exact ((Below.refl _ _).alloc (Nat.le_refl _) _).drew
  have hins : Calls Tryd.prog 33 #[.slice p l.length c, .int .i64 j, .slice (some ⟨w1.heap.size, 0, none⟩) 1 1] W0 (Ins base (.slice p l.length c) l (ta, td) j W0) :=
    insert_any base _ l ta td j w1.heap.size W0 (own_block hown4 fun g hg => hbW0.block g (hown4.lt g hg).2) (by have := hbW0.size; omega) hj hkN (by rw [hW0]; exact heap_alloc_new w1 _) (by omega)
  rw [hW0] at hins
  have hkeep : ∀ W : World, W0.grownBy W (Value.slice p l.length c).ownBlock → ∀ k, k < w1.heap.size → (Value.slice p l.length c).ownBlock ≠ some k → W.heap[k]? = w1.heap[k]? := fun W hg k hk hne =>
    (hg.block k (Nat.lt_of_lt_of_le hk hbW0.size) (fun e => hne e.symm)).trans (hbW0.block k hk)
  have hkp : ∀ W : World, ((w1.alloc (.cells #[.int .i64 ta, .int .i64 td] 45)).drew).grownBy W (Value.slice p l.length c).ownBlock → W.cell? ⟨w.heap.size, 0, none⟩ = some (.int .i64 ta) ∧ W.cell? ⟨B, i, none⟩ = some (.slice p l.length c) ∧ W.cell? ⟨w.heap.size, 1, none⟩ = some (.int .i64 td) ∧ W.cell? ⟨T, 1, none⟩ = some (.slice (some ⟨B, 0, none⟩) 25 25) ∧ W.frozen? ⟨B, i, none⟩ = false := fun W hg => by
    rw [← hW0] at hg
    exact held5 e1 e5 e2 e4 e6 (hkeep W hg _ (by show w.heap.size < _; omega) hkK) (hkeep W hg _ (by show B < _; omega) hkB) (hkeep W hg _ (by show w.heap.size < _; omega) hkK) (hkeep W hg _ (by show T < _; omega) hkT)
  have HI : Hid (_ ∧ _ ∧ _ ∧ _ ∧ _ ∧ _ ∧ _) := ⟨hins, hkp, hkeep, hT4, hb4, hW0, hbW0⟩
  clear hins hkp hkeep hT4 hb4 hb4' hown4 d1 d2 d4 d5 hkT hkM hkB hkK hkN hb1 hW0 hbW0
  have hTB : T ≠ B := fun e => HT.out.1.offT _ (List.mem_cons_self ..) (by rw [e]; rfl)
  have hTw1 : T < w1.heap.size := by omega
  have hBw1 : B < w1.heap.size := by omega
  have hKw1 : w.heap.size < w1.heap.size := by omega
  have e4' : ((w1.alloc (.cells #[.int .i64 ta, .int .i64 td] 45)).drew).cell? ⟨T, 1, none⟩ = some (.slice (some ⟨B, 0, none⟩) 25 25) := (World.cell?_of_block (a := ⟨T, 1, none⟩) (Below.heap_alloc w1 _ T hTw1)).trans e4
  have HE : Hid _ := e4'
  clear e4'
  go_upto_region 3 with fail
  go_cut [] from 28 to 46 (fun wx => ∃ w5 g5 cap5, w5.ownsRow base 45 2 (.slice (some ⟨g5, 0, none⟩) (l.length + 1) cap5) (l.length + 1) (tcells (insAt l (ta, td) j)) ∧ ((w1.alloc (.cells #[.int .i64 ta, .int .i64 td] 45)).drew).grownBy w5 (Value.slice p l.length c).ownBlock ∧ ((Value.slice p l.length c).ownBlock = some g5 ∨ ((w1.alloc (.cells #[.int .i64 ta, .int .i64 td] 45)).drew).heap.size ≤ g5) ∧ wx = w5.setCell ⟨B, i, none⟩ (.slice (some ⟨g5, 0, none⟩) (l.length + 1) cap5))
  case first =>
    go_region_with (first | (go_at_call 33; refine HI.out.1.mono ?_; rintro r w5 ⟨g5, cap5, rfl, hown5, hg5, hlies5⟩; obtain ⟨s1, s2, s3, s4, s5⟩ := HI.out.2.1 _ hg5))
    all_goals
      go_wp2_with fail
      go_meet
      exact ⟨w5, g5, cap5, hown5, hg5, hlies5, rfl⟩
  case rest =>
  obtain ⟨w5, g5, cap5, hown5, hg5, hlies5, rfl⟩ := hcut
  rw [← HI.out.2.2.2.2.2.1] at hg5 hlies5
  have hkeep := HI.out.2.2.1 w5 hg5
  have hbW0 := HI.out.2.2.2.2.2.2
  have hT4 := HI.out.2.2.2.1
  have hkT : (Value.slice p l.length c).ownBlock ≠ some T := HT.out.1.offT _ (List.mem_cons_of_mem _ (List.mem_of_getElem? hu))
  have hkM : (Value.slice p l.length c).ownBlock ≠ some M := HT.out.1.offM _ (List.mem_cons_of_mem _ (List.mem_of_getElem? hu))
  have hkK : (Value.slice p l.length c).ownBlock ≠ some w.heap.size := fun e => by have := (HT.out.2.1.lt _ e).2; omega
  have hMlt : M < w1.heap.size := hT4.map.lt
  have hBM : M ≠ B := fun e => HT.out.1.offM _ (List.mem_cons_self ..) (by rw [e]; rfl)
  have hTw1 : T < w1.heap.size := by omega
  obtain ⟨w6, hw6⟩ : ∃ w6, w6 = w5.setCell ⟨B, i, none⟩ (.slice (some ⟨g5, 0, none⟩) (l.length + 1) cap5) := ⟨_, rfl⟩
  have h6 : ∀ k, k < w1.heap.size → (Value.slice p l.length c).ownBlock ≠ some k → k ≠ B → w6.heap[k]? = w1.heap[k]? := fun k hk hne hkB => by
    rw [hw6, Below.heap_setCell _ _ _ _ hkB]; exact hkeep k hk hne
  have hT6 : w6.heap[T]? = some (.cells #[.int .i64 now, .slice (some ⟨B, 0, none⟩) 25 25, .map (some M)] 41 (0, 0)) := (h6 T hTw1 hkT hTB).trans hT4.box
  have hM6 : MapAt w6 M n f := hT4.map.keep (h6 M hMlt hkM hBM)
  have hK6 : w6.cell? ⟨w.heap.size, 1, none⟩ = some (.int .i64 td) := (World.cell?_of_block (a := ⟨w.heap.size, 1, none⟩) (h6 _ hKw1 hkK (Nat.ne_of_gt (HT.out.1.own.row.lt B rfl).2))).trans e2
  obtain ⟨w7, hr7, hM7, hg7⟩ := MapAt.put (w := w6.drew) (hM6.keep rfl) hnn htd (show (Lit.int .i64 (i : Int)).wf = true from wf_small (by omega) (by omega))
  have hown6 : OwnLs w6 base (.slice (some ⟨B, 0, none⟩) 25 25) (vs.set i (.slice (some ⟨g5, 0, none⟩) (l.length + 1) cap5)) (ls.set i (insAt l (ta, td) j)) := by
    rw [hw6]
    refine OwnLs.put (w := W0) (hT4.own.below hbW0) hT4.len (by rw [hT4.len]; exact hi) hu hg5 (by rw [insAt_len]; exact hown5) (fun g hg => ?_)
    obtain rfl : g5 = g := Option.some.inj hg
    exact hlies5
  have hW0s := hbW0.size
  have hoff : ∀ X, (Value.slice p l.length c).ownBlock ≠ some X → X < w1.heap.size → (∀ x ∈ Value.slice (some ⟨B, 0, none⟩) 25 25 :: vs, x.ownBlock ≠ some X) → ∀ x ∈ Value.slice (some ⟨B, 0, none⟩) 25 25 :: vs.set i (.slice (some ⟨g5, 0, none⟩) (l.length + 1) cap5), x.ownBlock ≠ some X := fun X hX hXl ho x hx => by
    rcases List.mem_cons.1 hx with rfl | hx
    · exact ho _ (List.mem_cons_self ..)
    · rcases List.mem_or_eq_of_mem_set hx with h | rfl
      · exact ho x (List.mem_cons_of_mem _ h)
      · intro e
        obtain rfl : g5 = X := Option.some.inj e
        rcases hlies5 with h | h
        · exact hX h
        · omega
  have hY : Below base w w6 := by
    have hb4 := HI.out.2.2.2.2.1
    have hBb := (HT.out.1.own.row.lt B rfl).1
    have hbW : Below base w W0 := ((hb4.mono hbase).trans (hbW0.mono (by omega)))
    rw [hw6]
    refine (hbW.grown hg5 (by omega) (fun k hk => (HT.out.2.1.lt k hk).1)).setCell ?_ _
    exact hBb
  have HY : Hid (Below base w w6) := hY
  clear hY
  obtain ⟨t60, t61, t62, t6lt⟩ := three_cells hT6
  have hK6lt : w.heap.size < w6.heap.size := World.block_lt_of_cell? w6 ⟨w.heap.size, 1, none⟩ hK6
  have HZ : Hid (_ ∧ _ ∧ _ ∧ _ ∧ _ ∧ _) := ⟨hT6, hM7, hg7, hown6, h6, hlies5⟩
  rw [← hw6]
  clear hT6 hM6 hM7 hg7 hown6 h6 hw6 hkeep hbW0 hT4 hown5 hg5 hlies5 e1 e2 e4 e5 e6
  go_wp2_with fail
  go_region
  go_end0
  refine ⟨rfl, vs.set i (.slice (some ⟨g5, 0, none⟩) (l.length + 1) cap5), ⟨?_, ?_, ?_, ?_, ?_, HT.out.1.hT, HT.out.1.hM, HT.out.1.hTM, ?_⟩, ?_, fun g hg => ?_⟩
  · exact (HZ.out.2.2.1.block T t6lt (fun e => HT.out.1.hTM (Option.some.inj e))).trans HZ.out.1
  · refine (HZ.out.2.2.2.1.keep (w' := w6.drew) fun _ _ _ => rfl).kept HZ.out.2.2.1 fun x hx g hg e => ?_
    obtain rfl : g = M := Option.some.inj e
    exact hoff g hkM (by omega) HT.out.1.offM x hx hg
  · exact HZ.out.2.1
  · exact fun x hx => hoff T hkT (by omega) HT.out.1.offT x hx
  · exact fun x hx => hoff M hkM (by omega) HT.out.1.offM x hx
  · rw [List.length_set]; exact HT.out.1.len
  · refine ⟨HZ.out.2.2.1.os.trans HY.out.os, HZ.out.2.2.1.tape.trans HY.out.tape, HZ.out.2.2.1.output.trans HY.out.output, Nat.le_trans HY.out.size HZ.out.2.2.1.size, fun k hk => ?_⟩
    have hMb := HT.out.1.hM
    have hBb := (HT.out.1.own.row.lt B rfl).1
    rw [HZ.out.2.2.1.block k (Nat.lt_of_lt_of_le hk (Nat.le_trans hbase HY.out.size)) (fun e => by have := Option.some.inj e; omega)]
    exact HY.out.block k hk
  · obtain ⟨hg1, hg2, hg3, hg4, hg5⟩ := hg
    have hgu : (Value.slice p l.length c).ownBlock ≠ some g := hg5 _ (List.mem_of_getElem? hu)
    have hgw1 : g < w1.heap.size := Nat.lt_of_lt_of_le hg1 HI.out.2.2.2.2.1.size
    have hg6 : w6.heap[g]? = w.heap[g]? := (HZ.out.2.2.2.2.1 g hgw1 hgu hg3).trans (HI.out.2.2.2.2.1.block g hg1)
    have hg6l : g < w6.heap.size := Nat.lt_of_lt_of_le hg1 HY.out.size
    refine ⟨(HZ.out.2.2.1.block g hg6l (fun e => hg4 (Option.some.inj e))).trans hg6, Nat.lt_of_lt_of_le hg6l HZ.out.2.2.1.size, hg2, hg3, hg4, fun x hx => hoff g hgu hgw1 (fun y hy => ?_) x (List.mem_cons_of_mem _ hx)⟩
    rcases List.mem_cons.1 hy with rfl | hy
    · exact fun e => hg3 (Option.some.inj e).symm
    · exact hg5 y hy
end Go.Proofs.YtdfjobghgbcjpaaDoor.Walks
