/-
  A backend that goes: ring.Remove. Condition: the ring's spots can be read.
-/
import Derived.Test.YtpmobbbohchdlabRefAR
import Derived.Test.YtpmobbbohchdlabDelete2
import Derived.WalkKit
import Derived.ProofKit
import Derived.Handy
import Derived.LoopTactic
import Derived.Below
import Derived.Laws.BitsAllLaws
import Derived.RegionTactic
import Derived.Deep.RegionHeld3
import Derived.Deep.DrawnRows
import Derived.Deep.AppendLies
import Derived.Laws.OwnMore
import Derived.Deep.Onto
import Derived.Deep.QuietTactic
import Derived.BigQuiet
namespace Go.Proofs.Ytpmobbbohchdlab.Walks
open Go.RowKit
set_option linter.unusedVariables false
set_option linter.unusedSimpArgs false
attribute [local go_sem ↓] Go.wp_at_zero Go.wp_at_succ

theorem spotsOf_sorted {a : List Int} (ha : Wts a) : (spotsOf a).Pairwise (fun x y => cmpT x y < 0) := sortT_sorted (raw_nodup ha 12)

theorem wt_set {a : List Int} (n b : Nat) (x : Int) (hn : n < a.length) : wt (a.set n x) b = if b = n then x.toNat else wt a b := by
  unfold wt
  by_cases h : b = n
  · subst h
    rw [if_pos rfl]
    simp [List.getD_eq_getElem?_getD, List.getElem?_set_self hn]
  · rw [if_neg h]
    simp [List.getD_eq_getElem?_getD, List.getElem?_set_ne (Ne.symm h)]

/-- Without a backend's spots: the ring of the other weights. -/
theorem kp_spots {a : List Int} (ha : Wts a) (n : Nat) (hn : n < 12) : kp (spotsOf a) (n : Int) = spotsOf (a.set n 0) := by
  have hw := ha.set n 0 (by omega) (by omega)
  refine sorted_unique ((spotsOf_sorted ha).filter _) (spotsOf_sorted hw) fun t => ?_
  unfold kp
  rw [List.mem_filter, mem_spotsOf, mem_spotsOf]
  constructor
  · rintro ⟨⟨b, i, hb, hi, rfl⟩, hne⟩
    have hbn : b ≠ n := fun e => by subst e; simp at hne
    refine ⟨b, i, hb, ?_, rfl⟩
    rw [wt_set n b 0 (by rw [ha.len]; exact hn), if_neg hbn]
    exact hi
  · rintro ⟨b, i, hb, hi, rfl⟩
    rw [wt_set n b 0 (by rw [ha.len]; exact hn)] at hi
    by_cases hbn : b = n
    · rw [if_pos hbn] at hi
      simp at hi
    · rw [if_neg hbn] at hi
      refine ⟨⟨b, i, hb, hi, rfl⟩, ?_⟩
      simp
      omega

theorem RingOk.eq {l : List Tm} (h : RingOk l) : l = spotsOf (wOf l) := (ringOk_iff fun b hb => ringOk_cnt h b hb).1 h

theorem kp_ring {l : List Tm} (h : RingOk l) (n : Nat) (hn : n < 12) : kp l (n : Int) = spotsOf ((wOf l).set n 0) := by
  have := kp_spots h.wts n hn
  rwa [← h.eq] at this

theorem has_spot {l : List Tm} (h : RingOk l) (n : Nat) (hn : n < 12) (hp : 0 < (wOf l).getD n 0) : ∃ t ∈ l, t.2 = (n : Int) := by
  refine ⟨(((spotMix n 0 : Nat) : Int), (n : Int)), ?_, rfl⟩
  rw [h.eq]
  refine mem_spotsOf.2 ⟨n, 0, hn, ?_, rfl⟩
  unfold wt
  omega

theorem below_newC (w : World) {o : Obj} : Below w.heap.size w (w.alloc o) := (Below.refl _ _).alloc (Nat.le_refl _) _

theorem own_empty {w : World} {g : Nat} {e : TypeId} {base k : Nat} (h : w.heap[g]? = some (.cells #[] e (0, 0))) (hb : base ≤ g) : w.ownsRow base e k (.slice (some ⟨g, 0, none⟩) 0 0) 0 [] :=
  ⟨by simp, .inr ⟨g, 0, #[], rfl, hb, h, Nat.le_refl _, by unfold maxLen; omega, by simp, by simp⟩⟩

set_option maxHeartbeats 2000000 in
set_option maxRecDepth 100000 in
theorem clone_any (v : Value) (l : List Tm) (w : World) (hv : TmAt w v l) (h0 : 0 < l.length) (hl : l.length ≤ 1048576) :
    Calls Try.prog 23 #[v] w fun r w' => ∃ g c, r = .returned (.slice (some ⟨g, 0, none⟩) l.length c) ∧ w'.ownsRow w.heap.size 42 2 (.slice (some ⟨g, 0, none⟩) l.length c) l.length (tcells l) ∧ Below w.heap.size w w' := by
  obtain ⟨a, cap, rfl, hc, hm, h⟩ := hv
  rcases h with ⟨h, _⟩ | ⟨b, off, rfl, hb, hcell⟩
  · omega
  · obtain ⟨i0, hi, hz0, hz1, hz2⟩ := info_parts infoTm
    have hnews : ∀ j u, (tcells l)[j]? = some u → (w.alloc (.cells #[] 42)).cell? ((⟨b, off, none⟩ : Addr).add j) = some u := fun j u hu => by
      have hj := (List.getElem?_eq_some_iff.1 hu).1
      rw [add_lit, (below_newC w).cell (p := ⟨b, off + j, none⟩) hb, hcell j hj, hu]
    have H0 : Hid _ := hnews
    have hnil : ∀ W, (binOp .eql 23 (.slice (some ⟨b, off, none⟩) l.length cap) (.slice none 0 0)).run Try.prog W = .ok (.bool false) W := fun W => by kernel_rfl
    clear hnews hcell
    go_enter Try.func23, Try.ntmps23
    go_wp2_with (first | (at_builtin; refine wpList_append_lies _ rfl _ _ 23 rfl w.heap.size 42 i0 _ 2 16 Try.underlying23 hi hz0 hz1 hz2 rfl (by decide) (.slice (some ⟨w.heap.size, 0, none⟩) 0 0) 0 [] rfl (own_empty (heap_alloc_new _ _) (Nat.le_refl _)) ⟨b, off, none⟩ l.length cap (tcells l) rfl (tcells_len l) H0.out (tcells_one l) h0 (by unfold maxLen; omega) (by omega) (by simp) _ rfl ?_; intro g' c' w2 hown2 hg2 hlies hlt2))
    go_wp2
    go_ret
    refine ⟨g', c', by simp, ?_, ?_⟩
    · rw [Nat.zero_add, List.nil_append] at hown2
      exact hown2
    · exact (below_newC w).grown hg2 (by simp) (fun j e => by cases e; exact Nat.le_refl _)

set_option maxHeartbeats 8000000 in
set_option maxRecDepth 100000 in
theorem remove_any (v : Value) (l : List Tm) (n : Int) (w : World) (hv : TmAt w v l) :
    Calls Try.prog 13 #[.agg #[v], .int .i64 n] w (RemRes l n w) := by
  obtain ⟨p, c, rfl, _⟩ := hv.parts
  have HV : Hid _ := hv
  clear hv
  go_enter Try.func13, Try.ntmps13
  go_wp2_with fail
  obtain ⟨W0, hW0⟩ : ∃ W0, W0 = ((w.alloc (.cells #[.slice p l.length c] 25)).alloc (.cells #[.int .i64 n] 3)).alloc (.cells #[.slice none 0 0] 25) := ⟨_, rfl⟩
  rw [← hW0]
  have hb0 : Below w.heap.size w W0 := by rw [hW0]; exact (((Below.refl _ _).alloc (Nat.le_refl _) _).alloc (by simp) _).alloc (by simp; omega) _
  have hR0 : W0.heap[w.heap.size]? = some (.cells #[.slice p l.length c] 25 (0, 0)) := by rw [hW0]; exact heap_old _ _ (heap_old _ _ (heap_alloc_new _ _))
  have hN0 : W0.heap[w.heap.size + 1]? = some (.cells #[.int .i64 n] 3 (0, 0)) := by rw [hW0]; exact heap_old _ _ (heap_second _ _ _)
  have hR1 : W0.heap[w.heap.size + 1 + 1]? = some (.cells #[.slice none 0 0] 25 (0, 0)) := by rw [hW0]; have := heap_alloc_new ((w.alloc (.cells #[.slice p l.length c] 25)).alloc (.cells #[.int .i64 n] 3)) (.cells #[.slice none 0 0] 25); simpa using this
  have hs0 : W0.heap.size = w.heap.size + 3 := by rw [hW0]; simp
  refine (weightsOf_any _ l _ (HV.out.below hb0)).mono ?_
  rintro r w1 ⟨a, b, rfl, hlen, hiff, ha, hb1⟩
  obtain ⟨f1, f2, f3⟩ := fresh_arr w1 a hlen
  have hbb := hb0.trans (hb1.mono hb0.size)
  obtain ⟨W5, hW5⟩ : ∃ W5, W5 = (w1.alloc (.cells #[.int .i64 0, .int .i64 0, .int .i64 0, .int .i64 0, .int .i64 0, .int .i64 0, .int .i64 0, .int .i64 0, .int .i64 0, .int .i64 0, .int .i64 0, .int .i64 0] 49)).setCells w1.heap.size 0 (icells a) := ⟨_, rfl⟩
  rw [← hW5] at f2 f3
  have hb5 := hbb.trans (f3.mono hbb.size)
  have hR5 := box_below (box_below hR1 hb1) f3
  have hN5 := box_below (box_below hN0 hb1) f3
  have hS5 := box_below (box_below hR0 hb1) f3
  have hc5 := one_cell hR5
  have hn5 := one_cell hN5
  have hf5 : W5.frozen? ⟨w.heap.size + 1 + 1, 0, none⟩ = false := by simp [World.frozen?, hR5]
  have hsz : (icells a).toArray.size = 12 := by simp [icells_len, hlen]
  have hs1 := hb1.size
  have k1 : (w1.alloc (.cells #[.int .i64 0, .int .i64 0, .int .i64 0, .int .i64 0, .int .i64 0, .int .i64 0, .int .i64 0, .int .i64 0, .int .i64 0, .int .i64 0, .int .i64 0, .int .i64 0] 49)).there w1.heap.size 0 (icells a).toArray.size := by rw [hsz]; exact f1
  have k2 : (Try.prog.info? 49).map (·.size) = some (icells a).toArray.size := by rw [infoW, hsz]
  have hg0 : (Try.prog.info? 49).map (·.size) = some (icells a).length := by rw [infoW, icells_len, hlen]
  have HQ : Hid (_ ∧ _ ∧ _ ∧ _ ∧ _) := ⟨k1, k2, all_oneCell_toArray (icells_one a), hW5, hg0⟩
  have HZ : Hid (_ ∧ _ ∧ _ ∧ _ ∧ _) := ⟨f2, hb5, hR5, hN5, hS5⟩
  have HI : Hid (_ ∧ _) := ⟨hiff, ha⟩
  clear k1 k2 f1 f2 f3 hb0 hb1 hbb hW5 hiff ha hb5 hsz hR1 hR5 hW0 hN5 hS5 hR0 hN0 hg0
  cases b
  · have hno : ¬ RingOk l := fun h => Bool.noConfusion (HI.out.1.2 h)
    have HN : Hid _ := hno
    clear hno HI
    go_wp2_with ((with_reducible refine wpList_store_mid rfl 49 (.tmp 6) (.tmp 12) rfl w1.heap.size 0 (icells a).toArray ?hx ?hy ?ht ?hi ?h1 ?_); (case hx => rfl); (case hy => rfl); (case ht => exact HQ.out.1); (case hi => exact HQ.out.2.1); (case h1 => exact HQ.out.2.2.1); rw [List.toList_toArray, ← HQ.out.2.2.2.1])
    refine bodyPost_ret (v := .tuple #[.agg #[.slice none 0 0], .int .i64 6]) (results_ct Try.results13 rfl rfl (load_row (P := Try.prog) (cs := [.slice none 0 0]) (one_set HZ.out.2.2.1) Try.underlying25 rfl (by kernel_rfl))) rfl ⟨_, _, rfl, HZ.out.2.1.setCell (by simp; omega) _, .inl ⟨HN.out, rfl, rfl⟩⟩
  · have HN : Hid (RingOk l ∧ a = wOf l) := ⟨HI.out.1.1 rfl, HI.out.2 rfl⟩
    clear HI
    go_wp2_with (first | ((with_reducible refine wpList_store_mid rfl 49 (.tmp 6) (.tmp 12) rfl w1.heap.size 0 (icells a).toArray ?hx ?hy ?ht ?hi ?h1 ?_); (case hx => rfl); (case hy => rfl); (case ht => exact HQ.out.1); (case hi => exact HQ.out.2.1); (case h1 => exact HQ.out.2.2.1); rw [List.toList_toArray, ← HQ.out.2.2.2.1]) | ((with_reducible refine wpList_load_mid rfl 49 (.tmp 6) rfl w1.heap.size 0 ?gx (icells a) _ ?gc Try.underlying49 ?gd ?gi ?_); (case gx => rfl); (case gc => exact HZ.out.1.range); (case gd => rfl); (case gi => exact HQ.out.2.2.2.2)))
    refine (has_any a n _ hlen).mono ?_
    by_cases hp : (0 ≤ n ∧ n < 12) ∧ 0 < a.getD n.toNat 0
    · have hpd : decide (0 ≤ n ∧ n < 12 ∧ 0 < a.getD n.toNat 0) = true := decide_eq_true ⟨hp.1.1, hp.1.2, hp.2⟩
      rw [hpd]
      rintro r w8 ⟨rfl, hb8⟩
      have hR8 := box_below HZ.out.2.2.1 hb8
      have hN8 := box_below HZ.out.2.2.2.1 hb8
      have hS8 := box_below HZ.out.2.2.2.2 hb8
      have hb8' := HZ.out.2.1.trans (hb8.mono HZ.out.2.1.size)
      have hT8 := HV.out.below (below_of hb8' (Nat.le_refl _))
      have hcS := one_cell hS8
      have hp' : 0 < (wOf l).getD n.toNat 0 := by rw [← HN.out.2]; exact hp.2
      have hs8 := (Array.getElem?_eq_some_iff.1 hR8).1
      obtain ⟨j, rfl⟩ := Int.eq_ofNat_of_zero_le hp.1.1
      have hj : j < 12 := by omega
      rw [Int.toNat_natCast] at hp'
      have hex := has_spot HN.out.1 j hj hp'
      have hl0 : 0 < l.length := by obtain ⟨t, ht, _⟩ := hex; exact List.length_pos_of_mem ht
      have hl1 := ringOk_len HN.out.1
      have hkr := kp_ring HN.out.1 j hj
      have H8 : Hid (_ ∧ _ ∧ _ ∧ _ ∧ _ ∧ _ ∧ _ ∧ _) := ⟨hR8, hN8, hS8, hb8', hT8, hex, hkr, hp'⟩
      clear hR8 hN8 hS8 hb8' hT8 hex hkr hp' hpd hb8 hp HQ HZ hc5 hn5 hf5
      go_wp2_with fail
      refine (clone_any _ l _ H8.out.2.2.2.2.1 hl0 (by omega)).mono ?_
      rintro r w9 ⟨g, c9, rfl, ho9, hb9⟩
      have hR9 := box_below H8.out.1 hb9
      have hN9 := box_below H8.out.2.1 hb9
      have hb9' := H8.out.2.2.2.1.trans (hb9.mono H8.out.2.2.2.1.size)
      have hg9 := (ho9.lt g rfl).1
      have H9 : Hid (_ ∧ _ ∧ _ ∧ _) := ⟨hR9, hN9, hb9', ho9⟩
      clear hR9 hN9 hb9' ho9 hb9 hcS
      go_wp2_with fail
      refine (delete_any _ g c9 l (j : Int) (w.heap.size + 1) _ H9.out.2.2.2 (one_cell H9.out.2.1) (by omega) H8.out.2.2.2.2.2.1).mono ?_
      rintro r w10 ⟨rfl, ho10, hg10⟩
      have hR10 : w10.heap[w.heap.size + 1 + 1]? = some (.cells #[.slice none 0 0] 25 (0, 0)) := by
        rw [hg10.block _ (Array.getElem?_eq_some_iff.1 H9.out.1).1 (fun e => by have := Option.some.inj e; omega)]
        exact H9.out.1
      have hb10 : Below w.heap.size w w10 := H9.out.2.2.1.grown hg10 H9.out.2.2.1.size (fun i e => by have := Option.some.inj e; omega)
      have hc10 := one_cell hR10
      have hf10 : w10.frozen? ⟨w.heap.size + 1 + 1, 0, none⟩ = false := by simp [World.frozen?, hR10]
      have hb11 := hb10.setCell (p := ⟨w.heap.size + 1 + 1, 0, none⟩) (by simp; omega) (.slice (some ⟨g, 0, none⟩) (kp l (j : Int)).length c9)
      have ho11 : (w10.setCell ⟨w.heap.size + 1 + 1, 0, none⟩ (.slice (some ⟨g, 0, none⟩) (kp l (j : Int)).length c9)).ownsRow w.heap.size 42 2 (.slice (some ⟨g, 0, none⟩) (kp l (j : Int)).length c9) (kp l (j : Int)).length (tcells (kp l (j : Int))) :=
        (own_block ho10 (fun i hi => Below.heap_setCell _ _ _ _ (by have := (ho10.lt i hi).1; simp; omega))).mono (by omega)
      rw [H8.out.2.2.2.2.2.2.1] at ho11 hb11
      have H11 : Hid (_ ∧ _ ∧ _) := ⟨hb11, ho11, hR10⟩
      have hkr := H8.out.2.2.2.2.2.2.1
      rw [hkr]
      clear hb11 ho11 hR10 ho10 hb10 hg10 hkr
      go_wp2
      refine bodyPost_ret (v := .tuple #[.agg #[.slice (some ⟨g, 0, none⟩) (spotsOf ((wOf l).set j 0)).length c9], .int .i64 0]) (results_ct Try.results13 rfl rfl (load_row (P := Try.prog) (cs := [.slice (some ⟨g, 0, none⟩) (spotsOf ((wOf l).set j 0)).length c9]) (one_set H11.out.2.2) Try.underlying25 rfl (by kernel_rfl))) rfl ⟨_, _, rfl, H11.out.1, .inr (.inr ⟨HN.out.1, ⟨⟨by omega, by omega⟩, ?_⟩, rfl, H11.out.2.1⟩)⟩
      rw [Int.toNat_natCast]
      exact H8.out.2.2.2.2.2.2.2
    · have hpd : decide (0 ≤ n ∧ n < 12 ∧ 0 < a.getD n.toNat 0) = false := decide_eq_false fun h => hp ⟨⟨h.1, h.2.1⟩, h.2.2⟩
      rw [hpd]
      rintro r w8 ⟨rfl, hb8⟩
      have hR8 := box_below HZ.out.2.2.1 hb8
      have hc8 := one_cell hR8
      have hf8 : w8.frozen? ⟨w.heap.size + 1 + 1, 0, none⟩ = false := by simp [World.frozen?, hR8]
      have HB : Hid (_ ∧ _ ∧ _) := ⟨HZ.out.2.1.trans (hb8.mono HZ.out.2.1.size), hR8, hp⟩
      clear hpd hp hb8 hR8
      go_wp2
      refine bodyPost_ret (v := .tuple #[.agg #[.slice none 0 0], .int .i64 8]) (results_ct Try.results13 rfl rfl (load_row (P := Try.prog) (cs := [.slice none 0 0]) (one_set HB.out.2.1) Try.underlying25 rfl (by kernel_rfl))) rfl ⟨_, _, rfl, HB.out.1.setCell (by simp; omega) _, .inr (.inl ⟨HN.out.1, by rw [← HN.out.2]; exact HB.out.2.2, rfl, rfl⟩)⟩
end Go.Proofs.Ytpmobbbohchdlab.Walks
