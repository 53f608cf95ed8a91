/-
  The backends as they come behind a key: ring.Walk. Condition: the ring's spots can be read.
-/
import Derived.Test.YtpmobbbohchdlabAlong
import Derived.Test.YtpmobbbohchdlabWalked
import Derived.WalkKit
import Derived.ProofKit
import Derived.Handy
import Derived.LoopTactic
import Derived.Below
import Derived.Laws.BitsAllLaws
import Derived.RegionTactic
import Derived.Deep.RegionHeld3
import Derived.Deep.DrawnRows
import Derived.Deep.AppendLies
import Derived.Laws.OwnMore
import Derived.Deep.Onto
import Derived.Deep.QuietTactic
import Derived.BigQuiet
namespace Go.Proofs.Ytpmobbbohchdlab.Walks
open Go.RowKit
set_option linter.unusedVariables false
set_option linter.unusedSimpArgs false
attribute [local go_sem ↓] Go.wp_at_zero Go.wp_at_succ
open Go.Shelf
attribute [local go_sem] Oper.semAt_some

theorem along2_stops (n : Nat) (hn : 1 ≤ n) (Bs Bf : Nat) (p : Option Addr) (c : Nat) (i0 : Nat) (xs : List Tm) (S : Nat → Prop) (w : World) (hSs : S Bs) (hSf : S Bf) (hi0 : i0 ≤ xs.length) (hlen : xs.length ≤ 1048576) (hcap : xs.length ≤ c)
    (hS : ∀ k, S k → k < w.heap.size) (hBs : w.cell? ⟨Bs, 0, none⟩ = some (.slice p xs.length c)) (hBf : w.cell? ⟨Bf, 0, none⟩ = some (.int .i64 i0))
    (pa : ∀ i (hi : i < xs.length), ∃ b off, p = some ⟨b, off, none⟩ ∧ S b ∧ w.cell? ⟨b, off + i * 2, none⟩ = some (.int .i64 xs[i].1) ∧ w.cell? ⟨b, off + i * 2 + 1, none⟩ = some (.int .i64 xs[i].2)) :
    SeqStopsK Fence.wide n Try.prog 30 #[.pointer (some ⟨Bs, 0, none⟩), .pointer (some ⟨Bf, 0, none⟩)] (fun x : Tm => #[Value.agg #[.int .i64 x.1, .int .i64 x.2]]) (Kept S) (fun ys => ys = comes xs i0 xs.length) (fun _ => True) xs.length w := fun l J Jx W hW hJ _ hY h0 =>
  along2_in n hn l Bs Bf p c i0 xs S hSs hSf hi0 hlen hcap J Jx hY (fun pre W1 hj => hJ pre W1 _ none hj ⟨rfl, rfl, rfl, Nat.le_refl _, fun _ _ _ => rfl⟩ (fun r e => by cases e)) W ((hW.cell (p := ⟨Bs, 0, none⟩) (hS _ hSs)).trans hBs) ((hW.cell (p := ⟨Bf, 0, none⟩) (hS _ hSf)).trans hBf)
    (fun i hi => by
      obtain ⟨b, off, hp, hb, h1, h2⟩ := pa i hi
      exact ⟨b, off, hp, hb, (hW.cell (p := ⟨b, off + i * 2, none⟩) (hS _ hb)).trans h1, (hW.cell (p := ⟨b, off + i * 2 + 1, none⟩) (hS _ hb)).trans h2⟩) h0

theorem wpListIn_load_eq {F : Fence} {n : Nat} {P : Program} (w : World) {ops : Array Oper} {rest : List Oper} {o : Oper} {a : Act} {Q : Exit → Act → World → Prop}
    (hg : o.guard = none) (T : TypeId) (x : Operand) (hop : o.op = .load T x) (v res : Value) (hx : a.eval x = v) (hr : (Instr.loadAt T v).run P w = .ok res w) (hK : wpListIn F n P ops Q rest (a.put o.dst res) w) :
    wpListIn F n P ops Q (o :: rest) a w := by
  refine wpListIn_plain hg fun K hK' => ?_
  unfold Oper.wpIn
  refine ⟨?_, ?_⟩
  · simp [Oper.about, hop, resolve, Target.leads, Sem.run_pure]
  · rw [Oper.semAt_plain F _ _ (by rw [hop]; intro c hc'; cases hc')]
    simp [execOp, hop, hx, hr, Result.andThen]
    exact hK' _ _ hK

/-- A block of cells stands where blocks that are none turn. -/
theorem keepC {W W' : World} {row : Option Nat} {k : Nat} {cs : Array Value} {t : TypeId} {f : Nat × Nat} (h : W.heap[k]? = some (.cells cs t f)) (hg : W.grownBy W' row) (hr : ∀ r, row = some r → ∃ o : Obj, W.heap[r]? = some o ∧ o.isCells = false) : W'.heap[k]? = W.heap[k]? := by
  refine hg.block k (Array.getElem?_eq_some_iff.1 h).1 (fun e => ?_)
  obtain ⟨o, ho, hc⟩ := hr k e.symm
  rw [h] at ho
  cases ho
  cases hc

/-- What the walk holds between two rounds. -/
def Comes (w WL : World) (g6 g10 : Nat) (a : List Int) (out : List Int) (W : World) : Prop :=
  (∃ v, Boxed W g10 29 v ∧ W.ownsRow WL.heap.size 3 1 v out.length (icells out)) ∧ Arr 49 12 W g6 (mask a out) ∧ Below w.heap.size w W ∧ WL.heap.size ≤ W.heap.size

theorem comes_own (w WL : World) (g6 g10 : Nat) (a : List Int) (hsz : w.heap.size ≤ WL.heap.size) : OwnFrom WL.heap.size (fun (pre : List Tm) W => Comes w WL g6 g10 a (walkW a pre) W) := by
  rintro pre W W' row ⟨⟨v, hb, ho⟩, hA, hB, hs⟩ hg hr
  have hr2 : ∀ r, row = some r → ∃ o : Obj, W.heap[r]? = some o ∧ o.isCells = false := fun r e => (hr r e).2
  refine ⟨⟨v, (keepC hb hg hr2).trans hb, own_block ho (fun g hg' => ?_)⟩, hA.keep (keepC hA.1 hg hr2), hB.grown hg hB.size (fun k e => Nat.le_trans hsz (hr k e).1), Nat.le_trans hs hg.size⟩
  rcases ho.2 with ⟨rfl, _⟩ | ⟨g2, cap, cur, rfl, _, hgb, _⟩
  · cases hg'
  · have e : g2 = g := by simpa [Value.ownBlock] using hg'
    subst e
    exact keepC hgb hg hr2

theorem not_row {W : World} {k : Nat} {cs : Array Value} {t e : TypeId} {f : Nat × Nat} (h : W.heap[k]? = some (.cells cs t f)) (hte : t ≠ e) {base size n : Nat} {v : Value} {xs : List Value} (hr : W.ownsRow base e size v n xs) : v.ownBlock ≠ some k := by
  rcases hr.2 with ⟨rfl, _⟩ | ⟨g, cap, cur, rfl, _, hgb, _⟩
  · simp [Value.ownBlock]
  · intro e'
    have e2 : g = k := by simpa [Value.ownBlock] using e'
    subst e2
    rw [h] at hgb
    cases hgb
    exact hte rfl

/-- What a round leaves alone of what the iterator reads. -/
def Aside (N g6 g10 : Nat) (k : Nat) : Prop := k < N ∧ k ≠ g6 ∧ k ≠ g10

theorem below_kept {N g6 g10 : Nat} {W W' : World} (h : Below W.heap.size W W') (hN : N ≤ W.heap.size) : Kept (Aside N g6 g10) W W' := fun k hk => h.block k (by have := hk.1; omega)

theorem below_keeps {N : Nat} {W W' : World} (h : Below W.heap.size W W') : KeepsFrom N W W' := ⟨h.size, fun k o _ hk _ => (h.block k (Array.getElem?_eq_some_iff.1 hk).1).trans hk⟩

theorem Comes.below {w WL : World} {g6 g10 : Nat} {a out : List Int} {W W' : World} (h : Comes w WL g6 g10 a out W) (hb : Below W.heap.size W W') : Comes w WL g6 g10 a out W' := by
  obtain ⟨⟨v, hx, ho⟩, hA, hB, hs⟩ := h
  exact ⟨⟨v, box_below hx hb, own_grownW ho hb⟩, hA.below hb, hB.trans (hb.mono hB.size), Nat.le_trans hs hb.size⟩

theorem comes_step {w WL w2 w1 : World} {g6 g10 b : Nat} {a out : List Int} {v v' : Value} {tmp : Obj} (hx : Boxed w2 g10 29 v) (ho : w2.ownsRow WL.heap.size 3 1 v out.length (icells out)) (hA : Arr 49 12 w2 g6 (mask a out)) (hB : Below w.heap.size w w2) (hs : WL.heap.size ≤ w2.heap.size)
    (hown : w1.ownsRow WL.heap.size 3 1 v' (out.length + 1) (icells out ++ [.int .i64 (b : Int)])) (hg : (w2.alloc tmp).grownBy w1 v.ownBlock) (h6 : g6 < WL.heap.size) (h10 : g10 < WL.heap.size) (hne : g6 < g10) (hw : w.heap.size ≤ g6) (hb : b < 12) :
    Boxed w1 g10 29 v ∧ Arr 49 12 w1 g6 (mask a out) ∧ Comes w WL g6 g10 a (out ++ [(b : Int)]) ((w1.setCell ⟨g10, 0, none⟩ v').setCell ⟨g6, b, none⟩ (.int .i64 0)) ∧ Kept (Aside WL.heap.size g6 g10) w2 ((w1.setCell ⟨g10, 0, none⟩ v').setCell ⟨g6, b, none⟩ (.int .i64 0)) ∧
      KeepsFrom WL.heap.size w2 ((w1.setCell ⟨g10, 0, none⟩ v').setCell ⟨g6, b, none⟩ (.int .i64 0)) := by
  have hk : ∀ k, k < w2.heap.size → v.ownBlock ≠ some k → w1.heap[k]? = w2.heap[k]? := fun k h1 h2 => (hg.block k (by simp; omega) (fun e => h2 e.symm)).trans (Below.heap_alloc _ _ _ h1)
  have hrow : ∀ k, k < WL.heap.size → v.ownBlock ≠ some k := fun k h e => by have := (ho.lt k e).1; omega
  have hx1 : Boxed w1 g10 29 v := (hk g10 (by omega) (hrow g10 h10)).trans hx
  have hA1 : Arr 49 12 w1 g6 (mask a out) := hA.keep (hk g6 (by omega) (hrow g6 h6))
  have hfar : ∀ k, k ≠ g6 → k ≠ g10 → ((w1.setCell ⟨g10, 0, none⟩ v').setCell ⟨g6, b, none⟩ (.int .i64 0)).heap[k]? = w1.heap[k]? := fun k h1 h2 => by
    rw [Below.heap_setCell _ _ _ _ (by simpa using h1), Below.heap_setCell _ _ _ _ (by simpa using h2)]
  have hgs := hg.size
  simp at hgs
  have hbA := hB.alloc hB.size tmp
  have hbw : Below w.heap.size w w1 := hbA.grown hg hbA.size (fun k e => by have := (ho.lt k e).1; omega)
  refine ⟨hx1, hA1, ⟨⟨v', ?_, ?_⟩, ?_, (hbw.setCell (by simp; omega) _).setCell (by simp; omega) _, ?_⟩, fun k hk2 => ?_, ⟨?_, fun k o h1 h2 h3 => ?_⟩⟩
  · exact (Below.heap_setCell _ _ _ _ (by simp; omega)).trans (hx1.set v')
  · rw [icells_append, List.length_append]
    exact own_block hown (fun g hg' => hfar g (by have := (hown.lt g hg').1; omega) (by have := (hown.lt g hg').1; omega))
  · rw [mask_snoc a out b hb]
    exact (hA1.other (by simp; omega) _).set b 0
  · simp; omega
  · rw [hfar k hk2.2.1 hk2.2.2]
    exact hk k (by have := hk2.1; omega) (hrow k hk2.1)
  · simp; omega
  · rw [hfar k (by omega) (by omega)]
    have hlt := (Array.getElem?_eq_some_iff.1 h2).1
    refine (hk k hlt (fun e => ?_)).trans h2
    rcases ho.2 with ⟨rfl, _⟩ | ⟨g, cap, cur, rfl, _, hgb, _⟩
    · cases e
    · have e2 : g = k := by simpa [Value.ownBlock] using e
      subst e2
      rw [h2] at hgb
      cases hgb
      cases h3

set_option maxHeartbeats 8000000 in
set_option maxRecDepth 100000 in
theorem walk_any (v : Value) (l : List Tm) (n : Int) (w : World) (hv : TmAt w v l) :
    Calls Try.prog 8 #[.agg #[v], .int .i64 n] w (WalkRes l n w) := by
  obtain ⟨p, c, rfl, hcap, hm, pv⟩ := hv.parts
  have HV : Hid (_ ∧ _) := ⟨hv, pv⟩
  clear hv pv
  refine (callsIn_wide (n := 3)).1 (callsIn_of_wp_marks Try.func8 rfl trivial (wpIn_wide.2 ?_) rfl)
  simp only [Try.ntmps8, List.size_toArray, List.length_cons, List.length_nil, Nat.reduceAdd, Nat.reduceSub, Array.replicate_succ, Array.replicate_zero, List.push_toArray, List.append_toArray, List.nil_append, List.cons_append]
  go_wp2_with fail
  obtain ⟨W0, hW0⟩ : ∃ W0, W0 = w.alloc (.cells #[.slice p l.length c] 25) := ⟨_, rfl⟩
  rw [← hW0]
  have hb0 : Below w.heap.size w W0 := by rw [hW0]; exact below_new _ _
  have hR0 : BoxR W0 w.heap.size (.slice p l.length c) l := by rw [hW0]; exact BoxR.new HV.out.1
  refine (weightsOf_any _ l _ hR0.2).mono ?_
  rintro r w1 ⟨a, b, rfl, hlen, hiff, ha, hb1⟩
  obtain ⟨f1, f2, f3⟩ := fresh_arr w1 a hlen
  have hbb := hb0.trans (hb1.mono hb0.size)
  obtain ⟨W5, hW5⟩ : ∃ W5, W5 = (w1.alloc (.cells #[.int .i64 0, .int .i64 0, .int .i64 0, .int .i64 0, .int .i64 0, .int .i64 0, .int .i64 0, .int .i64 0, .int .i64 0, .int .i64 0, .int .i64 0, .int .i64 0] 49)).setCells w1.heap.size 0 (icells a) := ⟨_, rfl⟩
  rw [← hW5] at f2 f3
  have hb5 := hbb.trans (f3.mono hbb.size)
  have hR5 := (hR0.below hb1).below f3
  have hsz : (icells a).toArray.size = 12 := by simp [icells_len, hlen]
  have hs1 := hb1.size
  have k1 : (w1.alloc (.cells #[.int .i64 0, .int .i64 0, .int .i64 0, .int .i64 0, .int .i64 0, .int .i64 0, .int .i64 0, .int .i64 0, .int .i64 0, .int .i64 0, .int .i64 0, .int .i64 0] 49)).there w1.heap.size 0 (icells a).toArray.size := by rw [hsz]; exact f1
  have k2 : (Try.prog.info? 49).map (·.size) = some (icells a).toArray.size := by rw [infoW, hsz]
  have HQ : Hid (_ ∧ _ ∧ _ ∧ _) := ⟨k1, k2, all_oneCell_toArray (icells_one a), hW5⟩
  have HZ : Hid (_ ∧ _ ∧ _) := ⟨f2, hb5, hR5⟩
  have HI : Hid (_ ∧ _) := ⟨hiff, ha⟩
  have hlt1 : w.heap.size < w1.heap.size := (hR0.below hb1).lt
  clear k1 k2 f1 f2 f3 hb0 hb1 hbb hW5 hiff ha hb5 hsz hR5 hW0 hR0 hs1
  cases b
  · have hno : ¬ RingOk l := fun h => Bool.noConfusion (HI.out.1.2 h)
    have HN : Hid _ := hno
    clear hno HI
    go_wp2_with ((with_reducible refine wpList_store_mid rfl 49 (.tmp 6) (.tmp 15) rfl w1.heap.size 0 (icells a).toArray ?hx ?hy ?ht ?hi ?h1 ?_); (case hx => rfl); (case hy => rfl); (case ht => exact HQ.out.1); (case hi => exact HQ.out.2.1); (case h1 => exact HQ.out.2.2.1); rw [List.toList_toArray, ← HQ.out.2.2.2])
    exact ⟨_, results_tmp2 rfl _ _ _, ⟨_, _, rfl, HZ.out.2.1, .inl ⟨HN.out, rfl, rfl⟩⟩⟩
  · have HN : Hid (RingOk l ∧ a = wOf l) := ⟨HI.out.1.1 rfl, HI.out.2 rfl⟩
    clear HI
    by_cases hn : 0 ≤ n ∧ n ≤ 4294967295
    · obtain ⟨key, rfl⟩ := Int.eq_ofNat_of_zero_le hn.1
      have hkey : key ≤ 4294967295 := by omega
      have hK := fun W => key_any key W hkey
      obtain ⟨at_, hat⟩ : ∃ at_ : Int, at_ = (keyMix key : Nat) := ⟨_, rfl⟩
      rw [← hat] at hK
      have HK : Hid (_ ∧ _) := ⟨hK, hat⟩
      clear hK hat hn
      go_wp2_with ((with_reducible refine wpList_store_mid rfl 49 (.tmp 6) (.tmp 15) rfl w1.heap.size 0 (icells a).toArray ?hx ?hy ?ht ?hi ?h1 ?_); (case hx => rfl); (case hy => rfl); (case ht => exact HQ.out.1); (case hi => exact HQ.out.2.1); (case h1 => exact HQ.out.2.2.1); rw [List.toList_toArray, ← HQ.out.2.2.2])
      refine (HK.out.1 _).mono ?_
      rintro r w2 ⟨rfl, hb2⟩
      have hbw2 := HZ.out.2.1.trans (hb2.mono HZ.out.2.1.size)
      have hR2 := HZ.out.2.2.below hb2
      have hA2 := HZ.out.1.below hb2
      have hcR := hR2.cell
      have hltR := hR2.lt
      have HY : Hid (_ ∧ _ ∧ _) := ⟨hbw2, hR2, hA2⟩
      clear hbw2 hR2 hA2 hb2 HZ HQ
      go_wp2_with fail
      obtain ⟨W6, hW6⟩ : ∃ W6, W6 = w2.alloc (.cells #[.slice none 0 0] 29) := ⟨_, rfl⟩
      have hb6 : Below w2.heap.size w2 W6 := by rw [hW6]; exact below_new _ _
      have hX6 : Boxed W6 w2.heap.size 29 (.slice none 0 0) := by rw [hW6]; exact Boxed.new _ _ _
      have hs6 : W6.heap.size = w2.heap.size + 1 := by rw [hW6]; simp
      have hbw6 := HY.out.1.trans (hb6.mono HY.out.1.size)
      rw [← hW6]
      have hsort : l.Pairwise (fun x y => cmpT x y < 0) := by have := spotsOf_sorted HN.out.1.wts; rwa [← HN.out.1.eq] at this
      have hl384 := ringOk_len HN.out.1
      clear hW6
      refine (along_any _ l at_ _ (HV.out.1.below hbw6) hsort (by omega)).mono ?_
      rintro r w3 ⟨Bf, rfl, hs3, hf3, hlt3, hb3⟩
      have hbw3 := hbw6.trans (hb3.mono hbw6.size)
      have hA3 := (HY.out.2.2.below hb6).below hb3
      have hX3 : Boxed w3 w2.heap.size 29 (.slice none 0 0) := box_below hX6 hb3
      have hg6 : w1.heap.size < w2.heap.size := HY.out.2.2.lt
      have hBfs := (Array.getElem?_eq_some_iff.1 hf3).1
      obtain ⟨H6, hH6⟩ : ∃ H6, H6 = W6.heap.size := ⟨_, rfl⟩
      rw [← hH6] at hs3 hlt3 hs6 ⊢
      have hn3 := hb3.size
      have HL : Hid (_ ∧ _ ∧ _ ∧ _ ∧ _) := ⟨hbw3, hA3, hX3, hs3, hf3⟩
      have HM : Hid (_ ∧ _ ∧ _ ∧ _ ∧ _) := ⟨hsort, hs6, hlt3, hBfs, hg6⟩
      clear hbw3 hA3 hX3 hs3 hf3 hsort hs6 hlt3 hBfs hb3 hb6 hX6 hbw6 HY hn3 hH6 hg6
      go_wp2
      obtain ⟨i0, hi, hz0, hz1, hz2⟩ := info_parts infoInt
      refine (wpIn_wide (n := 3)).1 ?_
      have hcell := HL.out.2.2.2
      refine wpIn_rangeFunc_ownH (F := Fence.wide) rfl (by omega) (gf := 30) (lb := #[.pointer (some ⟨H6, 0, none⟩), .pointer (some ⟨Bf, 0, none⟩)]) rfl trivial (enters_of Try.func30 (by kernel_rfl) rfl)
        (along2_stops 2 (by omega) H6 Bf p c (firstAt l at_) l (Aside w3.heap.size w1.heap.size w2.heap.size) w3 ?hSs ?hSf (firstAt_le l at_) (by omega) hcap (fun k hk => hk.1) (one_cell HL.out.2.2.2.1) (one_cell HL.out.2.2.2.2) ?hpa) Kept.trans (fun W k o o' hk hW _ _ j hj => World.putObj_heap_other (by have := hj.1; omega)) (Below.refl _ _) (fun _ => rfl)
        (fun pre W => Comes w w3 w1.heap.size w2.heap.size a (walkW a pre) W) (fun _ _ _ => False) (comes_own w w3 w1.heap.size w2.heap.size a HL.out.1.size) (fun _ _ _ _ _ hs _ _ => hs)
        ⟨⟨_, HL.out.2.2.1, World.ownsRow_nil _ _ _ _⟩, by rw [show walkW a [] = [] from rfl, mask_nil hlen]; exact HL.out.2.1, HL.out.1, Nat.le_refl _⟩
        (fun x a' W => ∃ Bx, w3.heap.size ≤ Bx ∧ W.heap[Bx]? = some (.cells #[.int .i64 x.1, .int .i64 x.2] 42 (0, 0)) ∧ a' = { tmps := #[.agg #[.slice p l.length c], .int .i64 key, .pointer (some ⟨w.heap.size, 0, none⟩), undef, .slice none 0 0, .int .i64 0, .pointer (some ⟨w1.heap.size, 0, none⟩), .bool true, .int .i64 at_, .int .i64 0, .pointer (some ⟨w2.heap.size, 0, none⟩), .pointer (some ⟨Bx, 0, none⟩), .tuple #[.agg (icells a).toArray, .bool true], .agg #[.slice p l.length c], .tuple #[.agg (icells a).toArray, .bool true], .agg (icells a).toArray, .bool true, .bool true, .bool false, .tuple #[.int .i64 at_, .int .i64 0], .int .i64 key, .tuple #[.int .i64 at_, .int .i64 0], .int .i64 at_, .int .i64 0, .int .i64 0, .bool false, undef, .pointer (some ⟨w.heap.size, 0, none⟩), .slice p l.length c, .int .i64 at_, .func (.func 30) #[] #[.pointer (some ⟨H6, 0, none⟩), .pointer (some ⟨Bf, 0, none⟩)], .agg #[.int .i64 x.1, .int .i64 x.2], undef, undef, undef, undef, undef, undef, undef, undef, undef, undef, undef, undef, undef], defers := [] })
        (fun x a' _ X Y row hs hg hr => by obtain ⟨Bx, h1, h2, h3⟩ := hs; exact ⟨Bx, h1, (keepC h2 hg (fun r e => (hr r e).2)).trans h2, h3⟩)
        ?assign ?body ?done ?stop
      case hSs => obtain ⟨_, h1, h2, h3, h4⟩ := HM.out; exact ⟨by omega, by omega, by omega⟩
      case hSf => obtain ⟨_, h1, h2, h3, h4⟩ := HM.out; exact ⟨by omega, by omega, by omega⟩
      case hpa =>
        intro i hi
        obtain ⟨b1, off, e1, e2, e3, e4⟩ := HV.out.2 i hi
        obtain ⟨_, h1, h2, h3, h4⟩ := HM.out
        exact ⟨b1, off, e1, ⟨by omega, by omega, by omega⟩, (HL.out.1.cell (p := ⟨b1, off + i * 2, none⟩) e2).trans e3, (HL.out.1.cell (p := ⟨b1, off + i * 2 + 1, none⟩) e2).trans e4⟩
      case assign =>
        rintro lp pre ⟨xa, xd⟩ W K hC hK
        gi_wp2
        have hbn := below_new W (.cells #[.int .i64 xa, .int .i64 xd] 42)
        exact hK _ _ (below_keeps hbn) (below_kept hbn hC.2.2.2) (hC.below hbn) ⟨W.heap.size, hC.2.2.2, heap_alloc_new _ _, rfl⟩
      case body =>
        rintro lp pre ⟨xa, xd⟩ a' W hlp _ hC ⟨Bx, hBx, hX, rfl⟩ hlt
        dsimp only at hX ⊢
        have hout := walkW_snoc a pre (xa, xd)
        have hpl := walkW_len a pre
        unfold stepW at hout
        obtain ⟨out, ho⟩ : ∃ out, out = walkW a pre := ⟨_, rfl⟩
        rw [← ho] at hC hout hpl
        obtain ⟨⟨v, hbox, hrow⟩, hA, hB, hsz⟩ := hC
        obtain ⟨vp, vc, rfl⟩ := own_form hrow
        have hld := hA.load (P := Try.prog) Try.underlying49 rfl infoW
        have hx1 : W.cell? ⟨Bx, 1, none⟩ = some (.int .i64 xd) := (two_cells hX).2.1
        have hml := mask_len a out
        obtain ⟨mk, hmk⟩ : ∃ mk, mk = mask a out := ⟨_, rfl⟩
        rw [← hmk] at hld hml
        by_cases hh : hasW (mask a out) xd
        · have hd : decide (0 ≤ xd ∧ xd < 12 ∧ 0 < mk.getD xd.toNat 0) = true := decide_eq_true (by rw [hmk]; exact hh)
          rw [if_pos hh] at hout
          obtain ⟨b, rfl⟩ := Int.eq_ofNat_of_zero_le hh.1
          have hb12 : b < 12 := by have := hh.2.1; omega
          have hbI : (b : Int) < 12 := by omega
          have hcal : Calls Try.prog 18 #[.agg (icells mk).toArray, .int .i64 (b : Int)] W fun r w4 => r = .returned (.bool true) ∧ Hid (Below W.heap.size W w4 ∧ True) ∧ w4.cell? ⟨w2.heap.size, 0, none⟩ = some (.slice vp out.length vc) ∧ w4.cell? ⟨Bx, 1, none⟩ = some (.int .i64 (b : Int)) := (has_any mk (b : Int) W hml).mono fun r w4 h => by
            rw [hd] at h
            exact ⟨h.1, ⟨h.2, trivial⟩, one_cell (box_below hbox h.2), (two_cells (box_below hX h.2)).2.1⟩
          have HC : Hid (_ ∧ _ ∧ _ ∧ _ ∧ _ ∧ _ ∧ _ ∧ _ ∧ _) := ⟨hbox, hrow, hA, hB, hsz, hX, hout, hld, hcal⟩
          clear hbox hrow hA hB hsz hX hout hld hcal hh hd ho hmk
          have fin5 : ∀ (w4 w5 : World) {g' cap' : Nat}, Below W.heap.size W w4 → w5.ownsRow w3.heap.size 3 1 (.slice (some ⟨g', 0, none⟩) (out.length + 1) cap') (out.length + 1) (icells out ++ [.int .i64 (b : Int)]) → (w4.alloc (.cells #[.int .i64 (b : Int)] 3)).grownBy w5 (Value.slice vp out.length vc).ownBlock →
              w5.cell? ⟨w2.heap.size, 0, none⟩ = some (.slice vp out.length vc) ∧ w5.frozen? ⟨w2.heap.size, 0, none⟩ = false ∧ w5.cell? ⟨Bx, 1, none⟩ = some (.int .i64 (b : Int)) ∧ w5.cell? ⟨w1.heap.size, b, none⟩ = some (.int .i64 ((mask a out).getD b 0)) ∧ w5.frozen? ⟨w1.heap.size, b, none⟩ = false ∧ (w2.heap.size ≠ Bx ∧ w1.heap.size ≠ w2.heap.size ∧ Bx ≠ w2.heap.size) ∧
              Hid (KeepsFrom w3.heap.size W ((w5.setCell ⟨w2.heap.size, 0, none⟩ (.slice (some ⟨g', 0, none⟩) (out.length + 1) cap')).setCell ⟨w1.heap.size, b, none⟩ (.int .i64 0)) ∧ Kept (Aside w3.heap.size w1.heap.size w2.heap.size) W ((w5.setCell ⟨w2.heap.size, 0, none⟩ (.slice (some ⟨g', 0, none⟩) (out.length + 1) cap')).setCell ⟨w1.heap.size, b, none⟩ (.int .i64 0)) ∧
                Comes w w3 w1.heap.size w2.heap.size a (walkW a (pre ++ [(xa, (b : Int))])) ((w5.setCell ⟨w2.heap.size, 0, none⟩ (.slice (some ⟨g', 0, none⟩) (out.length + 1) cap')).setCell ⟨w1.heap.size, b, none⟩ (.int .i64 0))) := by
            intro w4 w5 g' cap' hb4 hown5 hg5
            obtain ⟨hbox, hrow, hA, hB, hsz, hX, hout, _, _⟩ := HC.out
            obtain ⟨_, q1, q2, q3, q4⟩ := HM.out
            have hrow4 := own_grownW hrow hb4
            have hX4 := box_below hX hb4
            obtain ⟨s1, s2, s3, s4, s5⟩ := comes_step (w := w) (WL := w3) (g6 := w1.heap.size) (g10 := w2.heap.size) (a := a) (box_below hbox hb4) hrow4 (hA.below hb4) (hB.trans (hb4.mono hB.size)) (Nat.le_trans hsz hb4.size) hown5 hg5 (by omega) (by omega) (by omega) (by omega) hb12
            have hX5 : w5.heap[Bx]? = some (.cells #[.int .i64 xa, .int .i64 (b : Int)] 42 (0, 0)) :=
              ((hg5.block Bx (by have := (Array.getElem?_eq_some_iff.1 hX4).1; simp; omega) (fun e => not_row hX4 (by decide) hrow4 e.symm)).trans (Below.heap_alloc _ _ _ (Array.getElem?_eq_some_iff.1 hX4).1)).trans hX4
            refine ⟨one_cell s1, s1.frozen, (two_cells hX5).2.1, s2.at b hb12, s2.frozen b, ⟨by omega, by omega, by omega⟩, (below_keeps hb4).trans s5, (below_kept hb4 hsz).trans s4, ?_⟩
            rw [hout]
            exact s3
          gi_wp2_with (first | ((with_reducible refine wpListIn_load_eq _ rfl 49 (.tmp 6) rfl (.pointer (some ⟨w1.heap.size, 0, none⟩)) (.agg (icells mk).toArray) ?hx ?hr ?_); (case hx => rfl); (case hr => exact HC.out.2.2.2.2.2.2.2.1)) | (refine ⟨trivial, ?_⟩; gi_at_call 18; refine (CallsIn.inRound lp (callsIn_wide.2 HC.out.2.2.2.2.2.2.2.2)).mono ?_; rintro r w4 ⟨rfl, hb4, hc4, hx4⟩) | (gi_at_builtin; refine wpListIn_append_own _ rfl _ _ 29 rfl w3.heap.size 3 i0 (.int .i64 0) 1 8 Try.underlying29 hi hz0 hz1 hz2 rfl (by decide) (.slice vp out.length vc) out.length (icells out) rfl ((own_grownW HC.out.2.1 hb4.out.1).alloc _) ⟨w4.heap.size, 0, none⟩ 1 1 [.int .i64 (b : Int)] rfl rfl (news_at _ _ _) (by intro u hu; rw [List.mem_singleton.1 hu]; rfl) (by unfold maxLen; omega) (by omega) (by have h1 := hb4.out.1.size; have h2 := HC.out.2.2.2.2.1; simp; omega) ?_; intro v5 w5 hown5 hg5 _; obtain ⟨g', cap', rfl⟩ := ownsRow_succ hown5; obtain ⟨c5, d5, e5, f5, k5, m5, Hend⟩ := fin5 _ _ hb4.out.1 hown5 hg5))
          exact Hend.out
        · have hd : decide (0 ≤ xd ∧ xd < 12 ∧ 0 < mk.getD xd.toNat 0) = false := decide_eq_false (by rw [hmk]; exact hh)
          rw [if_neg hh] at hout
          have hcal : Calls Try.prog 18 #[.agg (icells mk).toArray, .int .i64 xd] W fun r w4 => r = .returned (.bool false) ∧ Hid (Below W.heap.size W w4 ∧ True) := (has_any mk xd W hml).mono fun r w4 h => by
            rw [hd] at h
            exact ⟨h.1, ⟨h.2, trivial⟩⟩
          have HC : Hid (_ ∧ _ ∧ _ ∧ _ ∧ _ ∧ _ ∧ _ ∧ _ ∧ _) := ⟨hbox, hrow, hA, hB, hsz, hX, hout, hld, hcal⟩
          clear hbox hrow hA hB hsz hX hout hld hcal hh hd ho hmk
          gi_wp2_with (first | ((with_reducible refine wpListIn_load_eq _ rfl 49 (.tmp 6) rfl (.pointer (some ⟨w1.heap.size, 0, none⟩)) (.agg (icells mk).toArray) ?hx ?hr ?_); (case hx => rfl); (case hr => exact HC.out.2.2.2.2.2.2.2.1)) | (refine ⟨trivial, ?_⟩; gi_at_call 18; refine (CallsIn.inRound lp (callsIn_wide.2 HC.out.2.2.2.2.2.2.2.2)).mono ?_; rintro r w4 ⟨rfl, hb4⟩))
          obtain ⟨hbox, hrow, hA, hB, hsz, hX, hout, _, _⟩ := HC.out
          refine ⟨below_keeps hb4.out.1, below_kept hb4.out.1 hsz, ?_⟩
          show Comes w w3 w1.heap.size w2.heap.size a (walkW a (pre ++ [(xa, xd)])) w4
          rw [hout]
          exact Comes.below ⟨⟨_, hbox, hrow⟩, hA, hB, hsz⟩ hb4.out.1
      case done =>
        rintro D ys W hD rfl ⟨⟨v, hbox, hrow⟩, hA, hB, hsz⟩ hK
        have hc := hbox.cell
        obtain ⟨vp, vc, rfl⟩ := own_form hrow
        have HF : Hid (_ ∧ _ ∧ _ ∧ _) := ⟨hrow, hB, hK, hD⟩
        clear hrow hB hK hD hA hbox
        go_wp2
        obtain ⟨hrow, hB, hK, hD⟩ := HF.out
        refine ⟨by simp, .inl ⟨_, _, rfl, run_takeDeferred hK, ?_⟩⟩
        refine ⟨_, results_tmp2 rfl _ _ _, ⟨_, _, rfl, ?_, .inr (.inr ⟨HN.out.1, ⟨by omega, by omega⟩, rfl, ?_⟩)⟩⟩
        · exact hB.trans (belowK_b (w := w) (Nat.le_refl _) W D _ _ (by have := HL.out.1.size; omega) hK rfl rfl)
        · have e := walk_ring HN.out.1 at_
          rw [← HN.out.2] at e
          rw [e] at hrow ⊢
          rw [Int.toNat_natCast, ← HK.out.2]
          exact (ownsRow_putObj hrow _ hK rfl).mono HL.out.1.size
      case stop =>
        rintro D c' pre W _ _ h _
        exact h.elim
    · have hbad : n < 0 ∨ 4294967295 < n := by omega
      go_wp2_with ((with_reducible refine wpList_store_mid rfl 49 (.tmp 6) (.tmp 15) rfl w1.heap.size 0 (icells a).toArray ?hx ?hy ?ht ?hi ?h1 ?_); (case hx => rfl); (case hy => rfl); (case ht => exact HQ.out.1); (case hi => exact HQ.out.2.1); (case h1 => exact HQ.out.2.2.1); rw [List.toList_toArray, ← HQ.out.2.2.2])
      refine (key_out n _ hbad).mono ?_
      rintro r w2 ⟨rfl, rfl⟩
      go_wp2
      exact ⟨_, results_tmp2 rfl _ _ _, ⟨_, _, rfl, HZ.out.2.1, .inr (.inl ⟨HN.out.1, hn, rfl, rfl⟩)⟩⟩
end Go.Proofs.Ytpmobbbohchdlab.Walks
