/-
  TableFull: a flow is taken just as long as there is a free slot, and takes the first one. Condition: the acts can be read.
-/
import Derived.Test.YthiojfgimjoenaaSeatL
import Derived.Test.YthiojfgimjoenaaLOld
import Derived.Deep.CutRange
import Derived.WalkKit
import Derived.ProofKit
import Derived.Handy
import Derived.LoopTactic
import Derived.Below
import Derived.Laws.BitsAllLaws
import Derived.RegionTactic
import Derived.Deep.RegionHeld3
import Derived.Deep.DrawnRows
import Derived.Deep.AppendLies
import Derived.Laws.OwnMore
import Derived.Deep.Onto
import Derived.Deep.QuietTactic
import Derived.BigQuiet
namespace Go.Proofs.Ythiojfgimjoenaa.Walks
open Go.RowKit
set_option linter.unusedVariables false
set_option linter.unusedSimpArgs false
attribute [local go_sem ↓] Go.wp_at_zero Go.wp_at_succ

def sh (k : Nat) : Option Nat → Int
  | none => -1
  | some j => ((k + j : Nat) : Int)

def idle (t : Sl) : Bool := !t.2.1

theorem sh_step {T : List Sl} {k : Nat} (hk : k < T.length) : sh k (find idle (T.drop k)) = if idle T[k] then (k : Int) else sh (k + 1) (find idle (T.drop (k + 1))) := by
  rw [List.drop_eq_getElem_cons hk, show find idle (T[k] :: T.drop (k + 1)) = if idle T[k] then some 0 else (find idle (T.drop (k + 1))).map (· + 1) from rfl]
  split
  · simp [sh]
  · cases find idle (T.drop (k + 1))
    · rfl
    · simp [sh]
      omega

theorem find_congr {p q : Sl → Bool} : ∀ {l : List Sl}, (∀ t ∈ l, p t = q t) → find p l = find q l
  | [], _ => rfl
  | t :: l, h => by
    unfold find
    rw [h t (List.mem_cons_self ..), find_congr fun x hx => h x (List.mem_cons_of_mem _ hx)]

theorem open_idle {T : List Sl} {E : List En} (h : Inv 30 T E) : find openB T = find idle T := find_congr fun t ht => by
  have hs := h.ok.2 t ht
  have hg := h.gens t ht
  unfold openB idle
  have hne : (t.1 != 1048576) = true := by simp; omega
  rw [hne, Bool.and_true]
  have hu := used_iff hs
  by_cases ht2 : t.2.1 = true
  · rw [decide_eq_false (hu.2 ht2), ht2]
    rfl
  · rw [decide_eq_true (Classical.byContradiction fun hn => ht2 (hu.1 hn)), (by simpa using ht2 : t.2.1 = false)]
    rfl

theorem hold1 {w w' : World} {a1 : Addr} {v1 : Value} (h1 : w.cell? a1 = some v1) (hb : Below w.heap.size w w') : w'.cell? a1 = some v1 ∧ Below w.heap.size w w' :=
  ⟨(hb.cell (World.block_lt_of_cell? w _ h1)).trans h1, hb⟩

set_option maxHeartbeats 16000000 in
set_option maxRecDepth 100000 in
theorem tableFull_row (w : World) (n : Int) (wn : (Lit.int .i64 n).wf = true) (v : Value) (l : List St) (hv : StAt w v l) (hwf : ∀ t ∈ l, (Lit.int .i64 t.1).wf = true ∧ (Lit.int .i64 t.2.1).wf = true ∧ (Lit.int .i64 t.2.2).wf = true) (key : Int) (wk : (Lit.int .i64 key).wf = true) (bk : Int) (wb : (Lit.int .i64 bk).wf = true) :
    Calls Try.prog 7 #[.int .i64 n, v, .int .i64 key, .int .i64 bk] w fun r w' => r = .returned (.bool true) ∧ Below w.heap.size w w' := by
  obtain ⟨pv, cv, rfl, _⟩ := hv.parts
  obtain ⟨ky, hky, pky⟩ := picked_some key 4294967296 wk (by omega) (by omega)
  obtain ⟨b, hb12, pbk⟩ := picked_some bk 12 wb (by omega) (by omega)
  have HV : Hid (_ ∧ _ ∧ _ ∧ _ ∧ _) := ⟨hv, hwf, wn, pky, pbk⟩
  clear hv hwf wn pky pbk wk wb
  go_enter Try.func7, Try.ntmps7
  go_wp2_with fail
  refine (seated_any n HV.out.2.2.1 _ l w HV.out.1 HV.out.2.1).mono ?_
  rintro r w1 hr
  obtain ⟨T, E, pT, pH, pG, pA, cT, cH, cG, cA, rfl, hL, hb⟩ := hr.open
  clear hr
  obtain ⟨W2, hW2⟩ : ∃ W2, W2 = w1.alloc (.cells #[.slice pT T.length cT] 24) := ⟨_, rfl⟩
  have hb2 : Below w1.heap.size w1 W2 := by rw [hW2]; exact below_newC w1
  have hT2 : W2.heap[w1.heap.size]? = some (.cells #[.slice pT T.length cT] 24 (0, 0)) := by rw [hW2]; exact heap_alloc_new _ _
  have hl2 := hL.below hb2
  obtain ⟨_, _, e0, _, _, paT⟩ := hl2.2.2.1.parts
  injection e0 with x0 _ x1
  subst x0 x1
  have H2 : Hid (_ ∧ _ ∧ _ ∧ _ ∧ _) := ⟨hW2, hl2, hT2, hb.trans (hb2.mono hb.size), paT⟩
  have t2 := one_cell hT2
  have lt2 : w1.heap.size < W2.heap.size := (Array.getElem?_eq_some_iff.1 hT2).1
  clear hW2 hT2 hb hb2 hL hl2 paT
  obtain ⟨⟨hT6, hE30⟩, _, _, _, _, _, _, _, _, m7, m8⟩ := H2.out.2.1.2
  have hlen1 := H2.out.2.1.1.ok.1.1
  go_wp2_with fail
  rw [← H2.out.1]
  go_wp2
  go_loopw [14, 15] (fun f i wr => ∃ (k : Nat), i = .int .i64 ((k : Int) - 1) ∧ f = .int .i64 (sh k (find idle (T.drop k))) ∧ k ≤ T.length ∧ W2 = wr) (fun _ i _ => (intOf i + 1).toNat)
  case atStart => exact ⟨T.length, rfl, by rw [List.drop_length]; rfl, Nat.le_refl _, rfl⟩
  case round =>
    obtain ⟨k, rfl, rfl, hk, rfl⟩ := hrel
    cases k with
    | succ k =>
      rw [show ((k + 1 : Nat) : Int) - 1 = k by omega]
      have hk' : k < T.length := by omega
      have hkI : (k : Int) < (T.length : Int) := by omega
      obtain ⟨b1, o1, rfl, hb1, _, c2, _, _⟩ := H2.out.2.2.2.2 k hk'
      have hst := sh_step hk'
      obtain ⟨u, hu⟩ : ∃ u, u = T[k].2.1 := ⟨_, rfl⟩
      have hid : idle T[k] = !u := by rw [hu]; rfl
      rw [← hu] at c2
      rw [hid] at hst
      have HS : Hid _ := hst
      clear hst hid hu
      obtain ⟨f, hf⟩ : ∃ f, f = sh (k + 1) (find idle (T.drop (k + 1))) := ⟨_, rfl⟩
      rw [← hf] at HS ⊢
      clear hf
      cases u
      · go_wp2
        go_roundw
        case rel => exact ⟨k, rfl, by rw [HS.out]; rfl, by omega, by trivial⟩
        case measure => simp [intOf]
      · go_wp2
        go_roundw
        case rel => exact ⟨k, rfl, by rw [HS.out]; rfl, by omega, by trivial⟩
        case measure => simp [intOf]
    | zero =>
      rw [List.drop_zero]
      have hkp : isKeyP (ky : Int) := ⟨by omega, by omega⟩
      have hbp : isBeP (b : Int) := ⟨by omega, by omega⟩
      have hfi := open_idle H2.out.2.1.1
      obtain ⟨T', hd, er, hpo⟩ : ∃ T' hd er, putOut T (ky : Int) (b : Int) = (T', hd, er) := ⟨_, _, _, rfl⟩
      have hcase : (sh 0 (find idle T) = -1 ∧ T' = [] ∧ er = 9) ∨ (∃ j : Nat, sh 0 (find idle T) = (j : Int) ∧ hd.1 = (j : Int) ∧ T'.length = T.length ∧ er = 0) := by
        have hpo' := hpo
        unfold putOut at hpo'
        rw [if_neg (not_not_intro H2.out.2.1.1.ok), if_neg (not_not_intro ⟨hkp, hbp⟩), hfi] at hpo'
        cases hf : find idle T with
        | none =>
          rw [hf] at hpo'
          injection hpo' with o1 o2
          injection o2 with o2 o3
          exact .inl ⟨rfl, o1.symm, o3.symm⟩
        | some j =>
          rw [hf] at hpo'
          injection hpo' with o1 o2
          injection o2 with o2 o3
          exact .inr ⟨j, by simp [sh], by rw [← o2], by rw [← o1]; simp, o3.symm⟩
      have hPut : ∀ W, Below W2.heap.size W2 W → Calls Try.prog 18 #[.agg #[.slice pT T.length cT], .int .i64 (ky : Int), .int .i64 (b : Int)] W fun r w' => ∃ q d, r = .returned (.tuple #[.agg #[.slice q T'.length d], .agg #[.int .i64 hd.1, .int .i64 hd.2], .int .i64 er]) ∧ Hid (w'.ownsRow W.heap.size 44 4 (.slice q T'.length d) T'.length (scells T') ∧ Below W.heap.size W w' ∧ Below W2.heap.size W2 w') ∧ (∀ n, n < W.heap.size → n < w'.heap.size) ∧ (∀ b o, b < W.heap.size → w'.cell? ⟨b, o, none⟩ = W.cell? ⟨b, o, none⟩) ∧ (∀ b o, b < W.heap.size → w'.frozen? ⟨b, o, none⟩ = W.frozen? ⟨b, o, none⟩) := fun W hW => by
        have := put_any (.slice pT T.length cT) T (ky : Int) (b : Int) W (H2.out.2.1.2.2.1.below hW)
        rw [hpo] at this
        refine this.mono ?_
        rintro r w' ⟨q, d, rfl, h1, h2⟩
        exact ⟨q, d, rfl, ⟨h1, h2, hW.trans (h2.mono hW.size)⟩, (fun n hn => Nat.lt_of_lt_of_le hn h2.size), (bcell h2).1, (bcell h2).2⟩
      obtain ⟨f, hf⟩ : ∃ f, f = sh 0 (find idle T) := ⟨_, rfl⟩
      rw [← hf] at hcase ⊢
      have H3 : Hid (_ ∧ _) := ⟨hPut, hcase⟩
      clear hPut hcase hf hpo hfi hkp hbp
      obtain ⟨h1, h2⟩ := hd
      go_upto_region 8 with fail
      go_cut [16, 17, 18] from 44 to 53 (fun x y e wx => ∃ g8 g9 q d, x = .pointer (some ⟨g8, 0, none⟩) ∧ y = .pointer (some ⟨g9, 0, none⟩) ∧ e = .int .i64 er ∧ OldEnd W2 (.slice q T'.length d) (.int .i64 h1) (.int .i64 h2) T' g8 g9 wx)
      case first =>
        go_region_held3 (fun W => W.cell? ⟨w1.heap.size, 0, none⟩ = some (.slice pT T.length cT) ∧ Below W2.heap.size W2 W) (first | exact hold1 t2 ((Below.refl _ _).drew) | exact hold1 t2 (((Below.refl _ _).drew).alloc (by simp) _) | exact hold1 t2 ((((Below.refl _ _).drew).alloc (by simp) _).alloc (by simp) _) | exact hold1 t2 hq5.out.2.2 | exact hold1 t2 (hq5.out.2.2.alloc hq5.out.2.2.size _) | exact hold1 t2 ((hq5.out.2.2.alloc hq5.out.2.2.size _).alloc (by have := hq5.out.2.2.size; simp; omega) _) | exact hold1 t2 (hq5.out.2.2.setCell (Nat.le_refl _) _) | exact hold1 t2 (hq5.out.2.2.setCell (Nat.le_succ _) _) | exact hold1 t2 ((hq5.out.2.2.setCell (Nat.le_refl _) _).alloc (by have := hq5.out.2.2.size; simp; omega) _) | exact hold1 t2 (((hq5.out.2.2.setCell (Nat.le_refl _) _).setCell (Nat.le_refl _) _).alloc (by have := hq5.out.2.2.size; simp; omega) _) | exact hold1 t2 (((hq5.out.2.2.setCell (Nat.le_refl _) _).setCell (Nat.le_succ _) _).setCell (Nat.le_succ _) _) | exact hold1 t2 (((hq5.out.2.2.setCell (Nat.le_succ _) _).setCell (Nat.le_refl _) _).setCell (Nat.le_refl _) _) | exact hold1 t2 ((hq5.out.2.2.setCell (Nat.le_refl _) _).setCell (Nat.le_refl _) _)) (first | (go_at_call_of 19 (Value.int .i64 key); refine (HV.out.2.2.2.1 _).mono ?_; rintro r w4 ⟨rfl, rfl⟩) | (go_at_call_of 19 (Value.int .i64 bk); refine (HV.out.2.2.2.2 _).mono ?_; rintro r w4 ⟨rfl, rfl⟩) | (go_at_call 18; refine (H3.out.1 _ ?hbW).mono ?_; (case hbW => first | assumption | exact (Below.refl _ _).drew | exact ((Below.refl _ _).drew).alloc (by simp) _ | exact (((Below.refl _ _).drew).alloc (by simp) _).alloc (by simp) _ | exact ((Below.refl _ _).alloc (Nat.le_refl _) _).drew | exact (((Below.refl _ _).alloc (Nat.le_refl _) _).alloc (by simp) _).drew); rintro r w5 ⟨q, d, rfl, hq5, hz5, hc5, hf5⟩))
        all_goals
          clear hz5 hc5 hf5
          go_wp2_with fail
          go_meet
          refine ⟨_, _, q, d, rfl, rfl, rfl, ?_⟩
          first
          | with_reducible exact oldA hq5.out.1 hq5.out.2.2
          | with_reducible exact oldB hq5.out.1 hq5.out.2.2
          | with_reducible exact oldC (by first | exact heap_alloc_new _ _ | exact heap_newo _ _) hq5.out.1 hq5.out.2.1 hq5.out.2.2
          | with_reducible exact oldE (by first | exact heap_alloc_new _ _ | exact heap_newo _ _) hq5.out.1 hq5.out.2.1 hq5.out.2.2
          | with_reducible exact oldD (by first | exact heap_old _ _ (heap_alloc_new _ _) | exact heap_oldd _ _ _) (by first | exact heap_second _ _ _ | exact heap_secondd _ _ _) hq5.out.1 hq5.out.2.1 hq5.out.2.2
          | with_reducible exact oldF (by first | exact heap_old _ _ (heap_alloc_new _ _) | exact heap_oldd _ _ _) (by first | exact heap_second _ _ _ | exact heap_secondd _ _ _) hq5.out.1 hq5.out.2.1 hq5.out.2.2
      case rest =>
      obtain ⟨g8, g9, q, d, rfl, rfl, rfl, hT8, hH9, _, hbx⟩ := hcut
      have e8 := one_cell hT8
      obtain ⟨i1, i2, _, _, _⟩ := two_cells hH9
      have tc := (hbx.cell (p := ⟨w1.heap.size, 0, none⟩) lt2).trans t2
      have HB : Hid _ := H2.out.2.2.2.1.trans (hbx.mono H2.out.2.2.2.1.size)
      clear hT8 hH9 hbx t2
      rcases H3.out.2 with ⟨rfl, rfl, rfl⟩ | ⟨j, rfl, hj, hTl, rfl⟩
      · go_wp2
        go_ret
        exact ⟨rfl, HB.out⟩
      · replace hj : h1 = (j : Int) := hj
        subst hj
        rw [hTl] at e8
        go_wp2
        go_ret
        exact ⟨by simp, HB.out⟩
end Go.Proofs.Ythiojfgimjoenaa.Walks
