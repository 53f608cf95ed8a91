/-
  The timers whose tick has come go off: their numbers are told, and they leave the wheel. The wheel at work is whole.
-/
import Derived.Test.YtdfjobghgbcjpaaDoorTurnT
import Derived.WalkKit
import Derived.ProofKit
import Derived.Handy
import Derived.LoopTactic
import Derived.Below
import Derived.Laws.BitsAllLaws
import Derived.RegionTactic
import Derived.Deep.RegionHeld3
import Derived.Deep.DrawnRows
import Derived.Deep.AppendLies
import Derived.Laws.OwnMore
import Derived.Deep.Onto
import Derived.Deep.QuietTactic
import Derived.BigQuiet
namespace Go.Proofs.YtdfjobghgbcjpaaDoor.Walks
open Go.RowKit
set_option linter.unusedVariables false
set_option linter.unusedSimpArgs false
attribute [local go_sem ↓] Go.wp_at_zero Go.wp_at_succ

theorem infoInt : (Tryd.prog.info? 3).map (fun i => (i.zero, i.size, i.bytes)) = some (some (.int .i64 0), 1, 8) := by kernel_rfl

/-- What the wheel at work has lies among the old blocks: where they are kept, so is it. -/
theorem Turn.old {w0 wr w' : World} {base T B M n0 n : Nat} {now now0 : Int} {vs : List Value} {ls0 ls : List (List Tm)} {f0 f : Int → Option Int} (h0 : Turn w0 base T B M n0 now0 vs ls0 f0) (h : Turn wr base T B M n now vs ls f) (hk : ∀ g, g < w0.heap.size → w'.heap[g]? = wr.heap[g]?) : Turn w' base T B M n now vs ls f := by
  have hT0 := (Array.getElem?_eq_some_iff.1 h0.box).1
  have hlen : vs.length = 25 := by rw [h0.own.each.1, h0.len]
  refine ⟨(hk T hT0).trans h.box, ⟨own_block h.own.row fun g hg => hk g (h0.own.row.lt g hg).2, ⟨h.own.each.1, fun i h1 h2 => ?_⟩, h.own.apart⟩, h.map.keep (hk M h0.map.lt), h.offT, h.offM, h.hT, h.hM, h.hTM, h.len⟩
  exact own_block (h.own.each.2 i h1 h2) fun g hg => hk g ((h0.own.each.2 i h1 (by rw [← h0.own.each.1]; exact h1)).lt g hg).2

/-- A place is struck. -/
theorem MapAt.del {w : World} {b n : Nat} {f : Int → Option Int} (h : MapAt w b n f) {id : Int} (hid : (Lit.int .i64 id).wf = true) (ty : TypeId) :
    ∃ w' f', (Builtin.delete_ #[39, 3] ty #[.map (some b), .int .i64 id]).run Tryd.prog w = .ok (.tuple #[]) w' ∧ MapAt w' b n f' ∧ w.grownBy w' (some b) := by
  obtain ⟨D, hown, hf⟩ := h
  obtain ⟨w', hr, ho, hg⟩ := hown.drop law3 Tryd.underlying39 (Go.Maps.keyOf_int_mk Tryd.underlying3 hid) ty
  obtain ⟨es, clock, es', clock', hb, rfl⟩ := hg
  refine ⟨_, fun k => if k = id then none else f k, hr, ⟨_, ho, fun k hk => ?_⟩, ⟨rfl, rfl, rfl, by simp [Go.ChangeMaps.setBlock], fun i _ hi => Go.ChangeMaps.heap_setBlock_other hb _ (fun e => hi (by rw [e]))⟩⟩
  dsimp only
  by_cases e : k = id
  · subst e
    rw [if_pos rfl]
    exact ⟨Maps.has_del_same, fun y hy => by cases hy⟩
  · rw [if_neg e]
    have hne : Lit.int .i64 k ≠ Lit.int .i64 id := fun h => e (by cases h; rfl)
    rw [Maps.has_del_other hne, Maps.atKey_del_other hne]
    exact hf k hk

theorem Turn.strike {w w' : World} {base T B M n : Nat} {now : Int} {vs : List Value} {ls : List (List Tm)} {f f' : Int → Option Int} (h : Turn w base T B M n now vs ls f) (hm : MapAt w' M n f') (hg : w.grownBy w' (some M)) : Turn w' base T B M n now vs ls f' := by
  refine ⟨(hg.block T (Array.getElem?_eq_some_iff.1 h.box).1 (fun e => h.hTM (Option.some.inj e))).trans h.box, h.own.kept hg fun u hu g hg' e => ?_, hm, h.offT, h.offM, h.hT, h.hM, h.hTM, h.len⟩
  exact h.offM u hu (by rw [hg', Option.some.inj e])

def idCells (l : List Tm) : List Value := l.map fun t => .int .i64 t.2

theorem place_self (m : Int) (h : 0 ≤ m) : placeOf m m = m % 8 := by unfold placeOf; rw [if_pos rfl]

set_option maxHeartbeats 8000000 in
set_option maxRecDepth 100000 in
theorem goOff_any (base T B M n : Nat) (m : Int) (vs : List Value) (ls : List (List Tm)) (f : Int → Option Int) (p : Nat) (L : List Tm) (w : World) (hB : Blk w) (hT : Turn w base T B M n m vs ls f) (hb0 : 0 < base) (hbase : base ≤ w.heap.size) (hn : 0 ≤ m) (hn2 : m ≤ 1099511627776)
    (hp : m % 8 = (p : Int)) (hL : ls[p]? = some L) (hLb : ∀ t ∈ L, (Lit.int .i64 t.2).wf = true) (hLl : L.length ≤ 1048576) :
    Calls Tryd.prog 26 #[.pointer (some ⟨T, 0, none⟩)] w fun r w' => ∃ v vs' f', r = .returned v ∧ w'.ownsRow w.heap.size 3 1 v L.length (idCells L) ∧ Turn w' base T B M n m vs' (ls.set p []) f' ∧ Below base w w' := by
  obtain ⟨i0, hi, hz0, hz1, hz2⟩ := info_parts infoInt
  obtain ⟨t0, t1, t2, tlt⟩ := three_cells hT.box
  have hp25 : p < 25 := by omega
  have hpl : p < ls.length := by rw [hT.len]; exact hp25
  obtain ⟨u, hu, hown⟩ := own_at hT.own p hpl
  have hlc := lists_cell hT.own hT.len p hpl u hu
  have hLp : ls[p] = L := by rw [List.getElem?_eq_getElem hpl] at hL; exact Option.some.inj hL
  rw [hLp] at hown
  have hBlt := (hT.own.row.lt B rfl).2
  have hBb := (hT.own.row.lt B rfl).1
  have HPl : Hid (∀ q, Calls Tryd.prog 30 #[.int .i64 m, .int .i64 m] (w.drewN q) fun e w' => e = .returned (.int .i64 (p : Int)) ∧ ∃ k, w' = (w.drewN q).drewN k) := fun q => by
    rw [← hp, ← place_self m hn]; exact place_any m m _ (hB.drewN q) hn (by omega) hn (by omega)
  obtain ⟨up, uc, rfl⟩ := own_form hown
  have hread := rowAt_own hown
  have HX : Hid (_ ∧ _ ∧ _ ∧ _ ∧ _ ∧ _) := ⟨hT, hread, hLb, hu, hown, hLp⟩
  have hpI : (p : Int) < 25 := by omega
  clear hT hread hLb hu hown hL hLp hp hB
  go_enter Tryd.func26, Tryd.ntmps26
  go_wp2_with fail
  go_quiet ((go_at_call 30; exact Calls.quiet_of (HPl.out _)))
  go_wp2
  go_loopw [4, 27] (fun off i wr => ∃ (k : Nat) (f' : Int → Option Int), i = .int .i64 k ∧ k ≤ L.length ∧ wr.ownsRow w.heap.size 3 1 off k (idCells (L.take k)) ∧ Turn wr base T B M n m vs ls f' ∧ Below base w wr ∧ w.heap.size ≤ wr.heap.size) (fun _ i _ => L.length - (intOf i).toNat)
  case atStart => exact ⟨0, f, rfl, Nat.zero_le _, World.ownsRow_nil _ _ _ _, HX.out.1.below (below_drewN (Below.refl _ _) nq), below_drewN (Below.refl _ _) nq, Nat.le_refl _⟩
  case round =>
    obtain ⟨k, f', rfl, hk, hoff, hT, hbr, hsz⟩ := hrel
    by_cases hlt : k < L.length
    · obtain ⟨u2, hu2, ho2⟩ := own_at hT.own p hpl
      rw [HX.out.2.2.2.1] at hu2
      obtain rfl := Option.some.inj hu2
      rw [HX.out.2.2.2.2.2] at ho2
      obtain ⟨g, c', hform, hbg, hgl⟩ := ho2.form (by omega)
      simp only [Value.slice.injEq] at hform
      obtain ⟨rfl, _, rfl⟩ := hform
      have f1 := tcells_at L k hlt
      rw [← ho2.cellAt _ (by omega), ← ho2.cellAt _ (by omega)] at f1
      obtain ⟨ta, hta⟩ : ∃ ta, L[k].1 = ta := ⟨_, rfl⟩
      obtain ⟨td, htd⟩ : ∃ td, L[k].2 = td := ⟨_, rfl⟩
      rw [hta, htd] at f1
      obtain ⟨e1, e2⟩ := f1
      have hid : (Lit.int .i64 td).wf = true := by rw [← htd]; exact HX.out.2.2.1 _ (List.getElem_mem hlt)
      have hcell : idCells (L.take (k + 1)) = idCells (L.take k) ++ [.int .i64 td] := by
        rw [List.take_succ_eq_append_getElem hlt, ← htd]
        unfold idCells
        rw [List.map_append]
        rfl
      have hk2 : (k : Int) < (L.length : Int) := by omega
      have HN : Hid (∀ j y, [Value.int .i64 td][j]? = some y → ((wr.alloc (.cells #[.int .i64 ta, .int .i64 td] 45)).alloc (.cells #[.int .i64 td] 3)).cell? ((⟨wr.heap.size + 1, 0, none⟩ : Addr).add j) = some y) := by
        have h := news_at (wr.alloc (.cells #[.int .i64 ta, .int .i64 td] 45)) [.int .i64 td] 3
        have hs : (wr.alloc (.cells #[.int .i64 ta, .int .i64 td] 45)).heap.size = wr.heap.size + 1 := by simp
        rw [hs] at h
        exact h
      have HR : Hid (_ ∧ _ ∧ _ ∧ _ ∧ _) := ⟨hoff, hT, hbr, hcell, hsz⟩
      clear hoff hT hbr hcell ho2 hta htd
      go_wp2_with (first | (at_builtin; refine wpList_append_lies _ rfl _ _ 33 rfl w.heap.size 3 i0 _ 1 8 Tryd.underlying33 hi hz0 hz1 hz2 rfl (by decide) u4 k _ rfl ((HR.out.1.alloc _).alloc _) _ 1 1 [.int .i64 td] rfl rfl HN.out (by intro y hy; rw [List.mem_singleton.1 hy]; rfl) (by decide) (by unfold maxLen; omega) (by omega) (by simp; omega) _ rfl ?_; intro g' cap w2 hown2 hg2 hlies hlt2))
      have hb2 : ∀ q, q < w.heap.size → w2.heap[q]? = wr.heap[q]? := fun q hq => by
        rw [hg2.block q (by simp; omega) (fun e => by have := (HR.out.1.lt q e.symm).1; omega)]
        exact (((Below.refl _ wr).alloc (Nat.le_refl _) _).alloc (by simp) _).block q (by omega)
      have hK : w2.cell? ⟨wr.heap.size, 1, none⟩ = some (.int .i64 td) := by
        have h1 : w2.heap[wr.heap.size]? = some (.cells #[.int .i64 ta, .int .i64 td] 45 (0, 0)) := by
          rw [hg2.block wr.heap.size (by simp; omega) (fun e => by have := (HR.out.1.lt _ e.symm).2; omega)]
          exact heap_old _ _ (heap_alloc_new _ _)
        simp [World.cell?, h1]
      have hKl : wr.heap.size < w2.heap.size := World.block_lt_of_cell? w2 ⟨wr.heap.size, 1, none⟩ hK
      have hszr := HR.out.2.2.2.2
      have hT2 := HX.out.1.old HR.out.2.1 hb2
      have hT2' : Turn w2.drew base T B M n m vs ls f' := hT2.keep fun _ _ _ => rfl
      obtain ⟨c0, c1, c2, clt⟩ := three_cells hT2.box
      obtain ⟨w3, f3, hr3, hm3, hg3⟩ := hT2'.map.del hid 0
      have hT3 := hT2'.strike hm3 hg3
      have hown3 : w3.ownsRow w.heap.size 3 1 (.slice (some ⟨g', 0, none⟩) (k + 1) cap) (k + 1) (idCells (L.take (k + 1))) := by
        rw [HR.out.2.2.2.1]
        refine own_block hown2 fun q hq => ?_
        rw [hg3.block q (hown2.lt q hq).2 (fun e => by have := (hown2.lt q hq).1; have := HX.out.1.map.lt; have := Option.some.inj e; omega)]
        rfl
      have hbw3 : Below base w w3 := by
        refine ⟨hg3.os.trans (hg2.os.trans HR.out.2.2.1.os), hg3.tape.trans (hg2.tape.trans HR.out.2.2.1.tape), hg3.output.trans (hg2.output.trans HR.out.2.2.1.output), Nat.le_trans HR.out.2.2.1.size (Nat.le_trans (show wr.heap.size ≤ w2.heap.size by omega) hg3.size), fun q hq => ?_⟩
        rw [hg3.block q (by show q < w2.heap.size; omega) (fun e => by have := HX.out.1.hM; have := Option.some.inj e; omega)]
        exact (hb2 q (by omega)).trans (HR.out.2.2.1.block q hq)
      have HZ : Hid (_ ∧ _ ∧ _ ∧ _) := ⟨hown3, hT3, hbw3, Nat.le_trans (show w.heap.size ≤ w2.heap.size by omega) hg3.size⟩
      clear hown3 hT3 hbw3 hm3 hg3 hT2 hT2' hb2 hown2 hg2 hlies e1 e2
      go_region
      go_wp2
      go_roundw
      case rel => exact ⟨k + 1, f3, by simp, hlt, HZ.out.1, HZ.out.2.1, HZ.out.2.2.1, HZ.out.2.2.2⟩
      case measure => simp [intOf]; omega
    · obtain rfl : k = L.length := by omega
      rw [List.take_length] at hoff
      obtain ⟨c0, c1, c2, clt⟩ := three_cells hT.box
      have hc5 := lists_cell hT.own hT.len p hpl _ HX.out.2.2.2.1
      have hfz : wr.frozen? ⟨B, p, none⟩ = false := by
        have h25 := hT.own.row
        rw [hT.len] at h25
        exact h25.frozenAt p
      have hcl := hT.clear hp25 HX.out.2.2.2.1
      have hoffB : ∀ g, u4.ownBlock = some g → g ≠ B := fun g hg e => by have := (hoff.lt g hg).1; omega
      have HR : Hid (_ ∧ _ ∧ _ ∧ _) := ⟨hoff, hcl, hbr, hoffB⟩
      clear hoff hT hcl hbr hoffB
      go_wp2
      go_ret
      refine ⟨_, _, f', rfl, own_block HR.out.1 fun g hg => Below.heap_setCell _ _ _ _ (HR.out.2.2.2 g hg), HR.out.2.1.1, HR.out.2.2.1.setCell hBb _⟩
end Go.Proofs.YtdfjobghgbcjpaaDoor.Walks
