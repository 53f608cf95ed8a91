/-
  A timer is taken off: out of its list, out of the map of places. The wheel at work is whole, and holds a timer of that number in that list.
-/
import Derived.Test.YtdfjobghgbcjpaaDoorDelete2
import Derived.Deep.CutRange
import Derived.Deep.RegionWith
import Derived.WalkKit
import Derived.ProofKit
import Derived.Handy
import Derived.LoopTactic
import Derived.Below
import Derived.Laws.BitsAllLaws
import Derived.RegionTactic
import Derived.Deep.RegionHeld3
import Derived.Deep.DrawnRows
import Derived.Deep.AppendLies
import Derived.Laws.OwnMore
import Derived.Deep.Onto
import Derived.Deep.QuietTactic
import Derived.BigQuiet
namespace Go.Proofs.YtdfjobghgbcjpaaDoor.Walks
open Go.RowKit
set_option linter.unusedVariables false
set_option linter.unusedSimpArgs false
attribute [local go_sem ↓] Go.wp_at_zero Go.wp_at_succ

theorem held4r {w w' : World} {a1 a2 a3 a4 : Addr} {v1 v2 v3 v4 : Value} (h1 : w.cell? a1 = some v1) (h2 : w.cell? a2 = some v2) (h3 : w.cell? a3 = some v3) (h4 : w.cell? a4 = some v4) (hf : w.frozen? a2 = false)
    (k1 : w'.heap[a1.block]? = w.heap[a1.block]?) (k2 : w'.heap[a2.block]? = w.heap[a2.block]?) (k3 : w'.heap[a3.block]? = w.heap[a3.block]?) (k4 : w'.heap[a4.block]? = w.heap[a4.block]?) :
    w'.cell? a1 = some v1 ∧ w'.cell? a2 = some v2 ∧ w'.cell? a3 = some v3 ∧ w'.cell? a4 = some v4 ∧ w'.frozen? a2 = false :=
  ⟨(World.cell?_of_block k1).trans h1, (World.cell?_of_block k2).trans h2, (World.cell?_of_block k3).trans h3, (World.cell?_of_block k4).trans h4, (World.frozen?_of_block k2).trans hf⟩

set_option maxHeartbeats 4000000 in
set_option maxRecDepth 100000 in
theorem remove_any (base T B M n : Nat) (now : Int) (vs : List Value) (ls : List (List Tm)) (f : Int → Option Int) (id : Int) (i : Nat) (w : World) (hT : Turn w base T B M n now vs ls f) (hbase : base ≤ w.heap.size) (hi : i < 25) (hid : (Lit.int .i64 id).wf = true) (hf : f id = some (i : Int)) (l : List Tm) (hl : ls[i]? = some l) (hex : ∃ t ∈ l, t.2 = id) :
    Calls Tryd.prog 24 #[.pointer (some ⟨T, 0, none⟩), .int .i64 id] w fun r w' => r = .returned (.tuple #[]) ∧ ∃ vs' f', Turn w' base T B M n now vs' (ls.set i (kp l id)) f' ∧ Below base w w' := by
  obtain ⟨t0, t1, t2, tlt⟩ := three_cells hT.box
  have hi' : i < ls.length := by rw [hT.len]; exact hi
  obtain ⟨u, hu, hown⟩ := own_at hT.own i hi'
  have hlc := lists_cell hT.own hT.len i hi' u hu
  have hl0 := hl
  rw [List.getElem?_eq_getElem hi'] at hl
  rw [Option.some.inj hl] at hown
  have hlpos : 0 < l.length := by obtain ⟨t, ht, _⟩ := hex; exact List.length_pos_of_mem ht
  obtain ⟨g, c, rfl, hbg, hgl⟩ := hown.form hlpos
  have hBlt : B < w.heap.size := (hT.own.row.lt B rfl).2
  have hBb := (hT.own.row.lt B rfl).1
  have hfz : w.frozen? ⟨B, i, none⟩ = false := by
    have h25 := hT.own.row
    rw [hT.len] at h25
    exact h25.frozenAt i
  have hgT : g ≠ T := fun e => hT.offT _ (List.mem_cons_of_mem _ (List.mem_of_getElem? hu)) (by rw [e]; rfl)
  have hgM : g ≠ M := fun e => hT.offM _ (List.mem_cons_of_mem _ (List.mem_of_getElem? hu)) (by rw [e]; rfl)
  have hgB : g ≠ B := fun e => (List.pairwise_cons.1 hT.own.apart).1 _ (List.mem_of_getElem? hu) B rfl (by rw [e]; rfl)
  have hTB : T ≠ B := fun e => hT.offT _ (List.mem_cons_self ..) (by rw [e]; rfl)
  have hMB : M ≠ B := fun e => hT.offM _ (List.mem_cons_self ..) (by rw [e]; rfl)
  have hMlt := hT.map.lt
  obtain ⟨w2, hw2⟩ : ∃ w2, w2 = w.alloc (.cells #[.int .i64 id] 3) := ⟨_, rfl⟩
  have hbw : Below w.heap.size w w2 := by rw [hw2]; exact (Below.refl _ _).alloc (Nat.le_refl _) _
  have hlt : w.heap.size < w2.heap.size := by rw [hw2]; simp
  have c1 : w2.cell? ⟨w.heap.size, 0, none⟩ = some (.int .i64 id) := by rw [hw2]; simp
  have c3 : w2.cell? ⟨T, 1, none⟩ = some (.slice (some ⟨B, 0, none⟩) 25 25) := (hbw.cell (p := ⟨T, 1, none⟩) tlt).trans t1
  have c4 : w2.cell? ⟨T, 2, none⟩ = some (.map (some M)) := (hbw.cell (p := ⟨T, 2, none⟩) tlt).trans t2
  have c5 : w2.cell? ⟨B, i, none⟩ = some (.slice (some ⟨g, 0, none⟩) l.length c) := (hbw.cell (p := ⟨B, i, none⟩) hBlt).trans hlc
  have c6 : w2.frozen? ⟨B, i, none⟩ = false := (hbw.frozen (p := ⟨B, i, none⟩) hBlt).trans hfz
  have hT2 := hT.below hbw
  have hrun : (Instr.lookup 39 (.map (some M)) (.int .i64 id) false).run Tryd.prog w2.drew = .ok (.int .i64 i) w2.drew := by
    obtain ⟨D, ho, hD⟩ := (hT2.map.keep (w' := w2.drew) rfl)
    obtain ⟨x, hr, hat, _⟩ := ho.lookup_int law3 Tryd.underlying39 Tryd.underlying3 (zero3 _) (Go.Maps.keyOf_int_mk Tryd.underlying3 hid)
    have h2 := (hD id hid).2 i hf
    rw [hat] at h2
    have : x = (i : Int) := by cases h2; rfl
    rw [this] at hr
    exact hr
  have hown2 := own_grown hown hbw
  have HT : Hid (_ ∧ _ ∧ _ ∧ _ ∧ _ ∧ _) := ⟨hT, hT2, hbw, hown2, hl0, hw2⟩
  have HX : Hid _ := hex
  have tlt2 : T < w2.heap.size := by omega
  have Blt2 : B < w2.heap.size := by omega
  have glt2 : g < w2.heap.size := by omega
  have Mlt2 : M < w2.heap.size := by omega
  have hiI : (i : Int) < 25 := by omega
  clear hT hT2 hbw hown hown2 hw2 hex hl hl0 t0 t1 t2 hlc hfz hf
  go_enter Tryd.func24, Tryd.ntmps24
  go_wp2_with fail
  rw [← HT.out.2.2.2.2.2]
  go_region
  have hsg : w.heap.size ≠ g := by omega
  have hdel := delete_any base g c l id w.heap.size w2.drew.drew (HT.out.2.2.2.1.drew.drew) c1 hsg HX.out
  have hkp : ∀ W : World, w2.drew.drew.grownBy W (some g) → W.cell? ⟨T, 1, none⟩ = some (.slice (some ⟨B, 0, none⟩) 25 25) ∧ W.cell? ⟨B, i, none⟩ = some (.slice (some ⟨g, 0, none⟩) l.length c) ∧ W.cell? ⟨w.heap.size, 0, none⟩ = some (.int .i64 id) ∧ W.cell? ⟨T, 2, none⟩ = some (.map (some M)) ∧ W.frozen? ⟨B, i, none⟩ = false := fun W hg =>
    held4r c3 c5 c1 c4 c6 (hg.block T tlt2 (fun e => hgT (Option.some.inj e).symm)) (hg.block B Blt2 (fun e => hgB (Option.some.inj e).symm)) (hg.block w.heap.size hlt (fun e => hsg (Option.some.inj e))) (hg.block T tlt2 (fun e => hgT (Option.some.inj e).symm))
  have HI : Hid (_ ∧ _) := ⟨hdel, hkp⟩
  clear hdel hkp
  go_upto_region 2 with fail
  go_cut [] from 11 to 27 (fun wx => ∃ w5, w5.ownsRow base 45 2 (.slice (some ⟨g, 0, none⟩) (kp l id).length c) (kp l id).length (tcells (kp l id)) ∧ w2.drew.drew.grownBy w5 (some g) ∧ wx = w5.setCell ⟨B, i, none⟩ (.slice (some ⟨g, 0, none⟩) (kp l id).length c))
  case first =>
    go_region_with (first | (go_at_call 37; refine HI.out.1.mono ?_; rintro r w5 ⟨rfl, hown5, hg5⟩; obtain ⟨s1, s2, s3, s4, s5⟩ := HI.out.2 _ hg5))
    all_goals
      go_wp2_with fail
      go_meet
      exact ⟨w5, hown5, hg5, rfl⟩
  case rest =>
  obtain ⟨w5, hown5, hg5, rfl⟩ := hcut
  obtain ⟨hT, hT2, hbw, hown2, hl0, _⟩ := HT.out
  have hl1 : ls[i] = l := by rw [List.getElem?_eq_getElem hi'] at hl0; exact Option.some.inj hl0
  obtain ⟨w6, hw6⟩ : ∃ w6, w6 = w5.setCell ⟨B, i, none⟩ (.slice (some ⟨g, 0, none⟩) (kp l id).length c) := ⟨_, rfl⟩
  have h6 : ∀ k, k < w2.heap.size → k ≠ g → k ≠ B → w6.heap[k]? = w2.heap[k]? := fun k hk hkg hkB => by
    rw [hw6, Below.heap_setCell _ _ _ _ hkB]
    exact hg5.block k hk (fun e => hkg (Option.some.inj e))
  have hT6 : w6.heap[T]? = some (.cells #[.int .i64 now, .slice (some ⟨B, 0, none⟩) 25 25, .map (some M)] 41 (0, 0)) := (h6 T tlt2 hgT.symm hTB).trans hT2.box
  have hM6 : MapAt w6 M n f := hT2.map.keep (h6 M Mlt2 hgM.symm hMB)
  have hown6 : OwnLs w6 base (.slice (some ⟨B, 0, none⟩) 25 25) (vs.set i (.slice (some ⟨g, 0, none⟩) (kp l id).length c)) (ls.set i (kp l id)) := by
    rw [hw6]
    exact OwnLs.put (w := w2.drew.drew) (hT2.own.keep fun _ _ _ => rfl) hT2.len hi' hu hg5 hown5 (fun k hk => .inl hk)
  have hoff : ∀ X, (∀ x ∈ Value.slice (some ⟨B, 0, none⟩) 25 25 :: vs, x.ownBlock ≠ some X) → ∀ x ∈ Value.slice (some ⟨B, 0, none⟩) 25 25 :: vs.set i (.slice (some ⟨g, 0, none⟩) (kp l id).length c), x.ownBlock ≠ some X := fun X ho x hx => by
    rcases List.mem_cons.1 hx with rfl | hx
    · exact ho _ (List.mem_cons_self ..)
    · rcases List.mem_or_eq_of_mem_set hx with h | rfl
      · exact ho x (List.mem_cons_of_mem _ h)
      · exact fun e => ho _ (List.mem_cons_of_mem _ (List.mem_of_getElem? hu)) e
  have hTn6 : Turn w6.drew base T B M n now (vs.set i (.slice (some ⟨g, 0, none⟩) (kp l id).length c)) (ls.set i (kp l id)) f :=
    ⟨hT6, hown6.keep fun _ _ _ => rfl, hM6.keep rfl, hoff T hT.offT, hoff M hT.offM, hT.hT, hT.hM, hT.hTM, by rw [List.length_set]; exact hT.len⟩
  obtain ⟨w7, f7, hr7, hm7, hg7⟩ := hTn6.map.del hid 0
  have hT7 := hTn6.strike hm7 hg7
  have hb7 : Below base w w7 := by
    have hs6 : w2.heap.size ≤ w6.heap.size := by rw [hw6]; have := hg5.size; simpa using this
    have h1 : Below base w w2.drew.drew := ((hbw.mono hbase).drew).drew
    have h2 : Below base w w6 := by rw [hw6]; exact (h1.grown hg5 (by show base ≤ w2.heap.size; omega) (fun k hk => by rw [← Option.some.inj hk]; exact hbg)).setCell hBb _
    exact h2.drew.grown hg7 (by show base ≤ w6.heap.size; omega) (fun k hk => by rw [← Option.some.inj hk]; exact hT.hM)
  have hK6 : w6.cell? ⟨w.heap.size, 0, none⟩ = some (.int .i64 id) := (World.cell?_of_block (a := ⟨w.heap.size, 0, none⟩) (h6 w.heap.size hlt hsg (by omega))).trans c1
  obtain ⟨q0, q1, q2, q3⟩ := three_cells hT6
  have hK6l := World.block_lt_of_cell? w6 ⟨w.heap.size, 0, none⟩ hK6
  have HZ : Hid (_ ∧ _) := ⟨hT7, hb7⟩
  rw [← hw6]
  clear hT7 hb7 hTn6 hm7 hg7 hown6 hT6 hM6 h6 hown5 hg5 hw6 hoff c1 c3 c4 c5 c6 hrun hT hT2 hbw hown2
  go_wp2_with fail
  go_region
  go_end0
  exact ⟨rfl, _, f7, HZ.out.1, HZ.out.2⟩
end Go.Proofs.YtdfjobghgbcjpaaDoor.Walks
