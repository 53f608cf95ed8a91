/-
  usherkeep.watch; a watch and healths in boxes of a law's own. No condition.
-/
import Derived.Test.YtofnhdkcadoiiaaBack
import Derived.WalkKit
import Derived.ProofKit
import Derived.Handy
import Derived.LoopTactic
import Derived.Below
import Derived.Laws.BitsAllLaws
import Derived.RegionTactic
import Derived.Deep.RegionHeld3
import Derived.Deep.DrawnRows
import Derived.Deep.AppendLies
import Derived.Laws.OwnMore
import Derived.Deep.Onto
import Derived.Deep.QuietTactic
import Derived.BigQuiet
namespace Go.Proofs.Ytofnhdkcadoiiaa.Walks
open Go.RowKit
set_option linter.unusedVariables false
set_option linter.unusedSimpArgs false
attribute [local go_sem ↓] Go.wp_at_zero Go.wp_at_succ

set_option maxHeartbeats 2000000 in
theorem watch_some (x y z : Int) (hx : (Lit.int .i64 x).wf = true) (hy : (Lit.int .i64 y).wf = true) (hz : (Lit.int .i64 z).wf = true) :
    ∃ n f d : Nat, (1 ≤ n ∧ n ≤ 16) ∧ (1 ≤ f ∧ f ≤ n) ∧ (1 ≤ d ∧ d ≤ 500) ∧ n = 1 + pick x 16 ∧ ∀ w, Calls Try.prog 19 #[.int .i64 x, .int .i64 y, .int .i64 z] w fun r w' => r = .returned (watV n f d) ∧ Below w.heap.size w w' := by
  have p0 : ∀ W, Calls Try.prog 20 #[.int .i64 x, .int .i64 16] W fun r w' => r = .returned (.int .i64 (pick x 16 : Nat)) ∧ w' = W := fun W => by
    have hb := wf_bd hx
    have := picked_any x 16 W hb.1 hb.2 (by omega) (by omega)
    exact this
  have hn := pick_lt x 16 (by omega)
  generalize pick x 16 = n at *
  obtain ⟨f, hf, p1⟩ := picked_some y (1 + n) hy (by omega) (by omega)
  obtain ⟨d, hd, p2⟩ := picked_some z 500 hz (by omega) (by omega)
  refine ⟨1 + n, 1 + f, 1 + d, ⟨by omega, by omega⟩, ⟨by omega, by omega⟩, ⟨by omega, by omega⟩, rfl, fun w => ?_⟩
  rw [Int.natCast_add] at p1
  have P : Hid (_ ∧ _ ∧ _) := ⟨p0, p1, p2⟩
  clear p0 p1 p2 hx hy hz
  obtain ⟨W0, hW0⟩ : ∃ W0, W0 = w.alloc (.cells #[.int .i64 0, .int .i64 0, .int .i64 0] 23) := ⟨_, rfl⟩
  have hB0 : W0.heap[w.heap.size]? = some (.cells #[.int .i64 0, .int .i64 0, .int .i64 0] 23 (0, 0)) := by rw [hW0]; exact heap_alloc_new _ _
  have hb0 : Below w.heap.size w W0 := by rw [hW0]; exact below_new _
  obtain ⟨c0, c1, c2, hlt⟩ := three_cells hB0
  have s0 : W0.frozen? ⟨w.heap.size, 0, none⟩ = false := by simp [World.frozen?, hB0]
  have s1 : W0.frozen? ⟨w.heap.size, 1, none⟩ = false := by simp [World.frozen?, hB0]
  have s2 : W0.frozen? ⟨w.heap.size, 2, none⟩ = false := by simp [World.frozen?, hB0]
  have H : Hid (_ ∧ _ ∧ _) := ⟨hW0, hB0, hb0⟩
  clear hW0 hB0 hb0
  go_enter Try.func19, Try.ntmps19
  go_wp2_with fail
  rw [← H.out.1]
  refine (P.out.1 _).mono ?_
  rintro e w' ⟨rfl, rfl⟩
  go_wp2_with fail
  refine (P.out.2.1 _).mono ?_
  rintro e w' ⟨rfl, rfl⟩
  go_wp2_with fail
  refine (P.out.2.2 _).mono ?_
  rintro e w' ⟨rfl, rfl⟩
  go_wp2
  exact bodyPost_ret (v := .agg #[.int .i64 (1 + n), .int .i64 (1 + f), .int .i64 (1 + d)]) (results_c Try.results19 rfl (load_row (P := Try.prog) (cs := [.int .i64 (1 + n), .int .i64 (1 + f), .int .i64 (1 + d)]) (three_set H.out.2.1) Try.underlying23 rfl (by kernel_rfl))) rfl ⟨by simp, ((H.out.2.2.setCell (Nat.le_refl _) _).setCell (Nat.le_refl _) _).setCell (Nat.le_refl _) _⟩

theorem BsAt.keep {w w' : World} {v : Value} {l : List Bool} (h : BsAt w v l) (hs : w.heap.size ≤ w'.heap.size) (hb : ∀ b, v.ownBlock = some b → w'.heap[b]? = w.heap[b]?) : BsAt w' v l := by
  obtain ⟨a, cap, rfl, hc, hm, h1 | ⟨b, off, rfl, h2, h3⟩⟩ := h
  · exact ⟨a, cap, rfl, hc, hm, .inl h1⟩
  · refine ⟨_, cap, rfl, hc, hm, .inr ⟨b, off, rfl, Nat.lt_of_lt_of_le h2 hs, fun i hi => ?_⟩⟩
    rw [← h3 i hi]
    have := hb b rfl
    simp only [World.cell?, this]

/-- A watch in block g, younger than the call. -/
def Wt (w W : World) (g : Nat) (n f d : Int) : Prop :=
  W.heap[g]? = some (.cells #[.int .i64 n, .int .i64 f, .int .i64 d] 23 (0, 0)) ∧ w.heap.size ≤ g ∧ Below w.heap.size w W

/-- A health in block h, younger than the call; its Marks lie behind m (or nowhere). -/
def Ht (w W : World) (m h : Nat) (v : Value) (l : List Bool) (o : Bool) (u t : Int) : Prop :=
  W.heap[h]? = some (.cells #[v, .bool o, .int .i64 u, .int .i64 t] 29 (0, 0)) ∧ BsAt W v l ∧ (∀ b, v.ownBlock = some b → m ≤ b) ∧ w.heap.size ≤ h ∧ h < m

theorem set4_size (W : World) (h : Nat) (a b c d : Value) : (set4 W h a b c d).heap.size = W.heap.size := by
  unfold set4
  simp

section
variable {w W W' : World} {g m h : Nat} {n f d : Int} {v : Value} {l : List Bool} {o : Bool} {u t : Int}

theorem Wt.below (H : Wt w W g n f d) (hb : Below W.heap.size W W') : Wt w W' g n f d :=
  ⟨box_below H.1 hb, H.2.1, H.2.2.trans (hb.mono H.2.2.size)⟩

theorem Ht.below (H : Ht w W m h v l o u t) (hb : Below W.heap.size W W') : Ht w W' m h v l o u t :=
  ⟨box_below H.1 hb, H.2.1.below hb, H.2.2⟩

theorem Wt.cells (H : Wt w W g n f d) : W.cell? ⟨g, 0, none⟩ = some (.int .i64 n) ∧ W.cell? ⟨g, 1, none⟩ = some (.int .i64 f) ∧ W.cell? ⟨g, 2, none⟩ = some (.int .i64 d) ∧ g < W.heap.size := three_cells H.1

theorem Ht.cells (H : Ht w W m h v l o u t) : W.cell? ⟨h, 0, none⟩ = some v ∧ W.cell? ⟨h, 1, none⟩ = some (.bool o) ∧ W.cell? ⟨h, 2, none⟩ = some (.int .i64 u) ∧ W.cell? ⟨h, 3, none⟩ = some (.int .i64 t) ∧ h < W.heap.size := four_cells H.1

theorem Ht.froz (H : Ht w W m h v l o u t) : W.frozen? ⟨h, 0, none⟩ = false ∧ W.frozen? ⟨h, 1, none⟩ = false ∧ W.frozen? ⟨h, 2, none⟩ = false ∧ W.frozen? ⟨h, 3, none⟩ = false := four_froz H.1

theorem Wt.set (H : Wt w W g n f d) (hg : g ≠ h) (hh : w.heap.size ≤ h) (a b c e : Value) : Wt w (set4 W h a b c e) g n f d :=
  ⟨(set4_other hg).trans H.1, H.2.1, (((H.2.2.setCell hh _).setCell hh _).setCell hh _).setCell hh _⟩

theorem Ht.other {k : Nat} (H : Ht w W m h v l o u t) (hk : h ≠ k) (hm : k < m) (a b c e : Value) : Ht w (set4 W k a b c e) m h v l o u t :=
  ⟨(set4_other hk).trans H.1, H.2.1.keep (by rw [set4_size]; exact Nat.le_refl _) (fun b hb => set4_other (by have := H.2.2.1 b hb; omega)), H.2.2⟩

theorem Ht.set (H : Ht w W m h v l o u t) {v' : Value} {l' : List Bool} (hv : BsAt W v' l') (hb : ∀ b, v'.ownBlock = some b → m ≤ b) (o' : Bool) (u' t' : Int) : Ht w (set4 W h v' (.bool o') (.int .i64 u') (.int .i64 t')) m h v' l' o' u' t' :=
  ⟨four_set H.1, hv.keep (by rw [set4_size]; exact Nat.le_refl _) (fun b hb' => set4_other (by have := hb b hb'; have := H.2.2.2.2; omega)), hb, H.2.2.2⟩
end

theorem hpostF_open {w w' : World} {ol : List Bool} {oo : Bool} {ou ot : Int} {ob : Bool} {oe : Int} {r : Ending} (h : HPostF w ((ol, oo, ou, ot), ob, oe) r w') :
    ∃ p c, r = .returned (.tuple #[hltV (.slice p ol.length c) oo ou ot, .bool ob, .int .i64 oe]) ∧ BsAt w' (.slice p ol.length c) ol ∧ (∀ b, Value.ownBlock (.slice p ol.length c) = some b → w.heap.size ≤ b) ∧ Below w.heap.size w w' := h

theorem note_out {n f d : Int} {l : List Bool} {u t : Int} {x : Bool} {now : Int} (hw : WatOk n f d) (hnow : 0 ≤ now ∧ now ≤ 1099511627776) (hh : HOk n l.length false u t) (hf : f ≤ (cntT (lastN n l x) : Int)) : noteO n f d l false u t x now true = (([], true, now + holdV d t, min (t + 1) 10), true, 0) := by
  unfold noteO allE
  rw [if_pos hw, if_pos hnow, if_pos hh, if_pos rfl, if_pos ⟨rfl, rfl, hf⟩]

theorem note_stay {n f d : Int} {l : List Bool} {o : Bool} {u t : Int} {x : Bool} {now : Int} {may : Bool} (hw : WatOk n f d) (hnow : 0 ≤ now ∧ now ≤ 1099511627776) (hh : HOk n l.length o u t) (hf : o = true ∨ may = false ∨ (cntT (lastN n l x) : Int) < f) : noteO n f d l o u t x now may = ((lastN n l x, o, u, t), false, 0) := by
  unfold noteO allE
  rw [if_pos hw, if_pos hnow, if_pos hh, if_pos rfl, if_neg]
  rintro ⟨h1, h2, h3⟩
  rcases hf with h | h | h
  · rw [h1] at h; cases h
  · rw [h2] at h; cases h
  · omega
end Go.Proofs.Ytofnhdkcadoiiaa.Walks
