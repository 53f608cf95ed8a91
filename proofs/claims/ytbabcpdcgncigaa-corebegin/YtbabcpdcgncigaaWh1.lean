/-
  wheel, part 1: contracts of its functions, and what they lean on. Conditions: what is read can be read.
-/
import Derived.Test.YtbabcpdcgncigaaChecked
import Derived.Test.YtbabcpdcgncigaaRows
import Derived.WalkKit
import Derived.ProofKit
import Derived.Handy
import Derived.LoopTactic
import Derived.Below
import Derived.Laws.BitsAllLaws
import Derived.RegionTactic
import Derived.Deep.RegionHeld3
import Derived.Deep.DrawnRows
import Derived.Deep.AppendLies
import Derived.Laws.OwnMore
import Derived.Deep.Onto
import Derived.Deep.QuietTactic
import Derived.BigQuiet
namespace Go.Proofs.Ytbabcpdcgncigaa.Wh
open Go.RowKit
set_option linter.unusedVariables false
set_option linter.unusedSimpArgs false
attribute [local go_sem ↓] Go.wp_at_zero Go.wp_at_succ
section
abbrev Tm := Int × Int

def tcells : List Tm → List Value
  | [] => []
  | t :: l => .int .i64 t.1 :: .int .i64 t.2 :: tcells l

def RowAt (w : World) (v : Value) (n : Nat) (xs : List Value) : Prop :=
  ∃ a cap, v = .slice a n cap ∧ n ≤ cap ∧ cap ≤ maxLen ∧ (n = 0 ∧ xs = [] ∨ ∃ b off, a = some ⟨b, off, none⟩ ∧ b < w.heap.size ∧ ∀ i, i < xs.length → w.cell? ⟨b, off + i, none⟩ = xs[i]?)

theorem RowAt.below {w w' : World} {v : Value} {n : Nat} {xs : List Value} (h : RowAt w v n xs) (hb : Below w.heap.size w w') : RowAt w' v n xs := by
  obtain ⟨a, cap, hv, hc, hm, h1 | ⟨b, off, h1, h2, h3⟩⟩ := h
  · exact ⟨a, cap, hv, hc, hm, .inl h1⟩
  · exact ⟨a, cap, hv, hc, hm, .inr ⟨b, off, h1, Nat.lt_of_lt_of_le h2 hb.size, fun i hi => by rw [hb.cell (p := ⟨b, off + i, none⟩) h2]; exact h3 i hi⟩⟩

def TmAt (w : World) (v : Value) (l : List Tm) : Prop := RowAt w v l.length (tcells l)

theorem TmAt.below {w w' : World} {v : Value} {l : List Tm} (h : TmAt w v l) (hb : Below w.heap.size w w') : TmAt w' v l := RowAt.below h hb

def Each {α β : Type} (R : α → β → Prop) (l : List α) (m : List β) : Prop := l.length = m.length ∧ ∀ i (h1 : i < l.length) (h2 : i < m.length), R l[i] m[i]

def LsAt (w : World) (v : Value) (ls : List (List Tm)) : Prop := ∃ vs, RowAt w v ls.length vs ∧ Each (TmAt w) vs ls

theorem Each.mono {α β : Type} {R S : α → β → Prop} (hRS : ∀ a b, R a b → S a b) {l : List α} {m : List β} (h : Each R l m) : Each S l m := ⟨h.1, fun i h1 h2 => hRS _ _ (h.2 i h1 h2)⟩

theorem LsAt.below {w w' : World} {v : Value} {ls : List (List Tm)} (h : LsAt w v ls) (hb : Below w.heap.size w w') : LsAt w' v ls := by
  obtain ⟨vs, h1, h2⟩ := h
  exact ⟨vs, h1.below hb, h2.mono (fun _ _ h => h.below hb)⟩

def WhAt (w : World) (x : Value) (now : Int) (ls : List (List Tm)) : Prop := ∃ v, x = .agg #[.int .i64 now, v] ∧ LsAt w v ls

theorem WhAt.below {w w' : World} {x : Value} {now : Int} {ls : List (List Tm)} (h : WhAt w x now ls) (hb : Below w.heap.size w w') : WhAt w' x now ls := by
  obtain ⟨v, h1, h2⟩ := h
  exact ⟨v, h1, h2.below hb⟩

end

section
set_option maxHeartbeats 1000000 in
theorem isTick_any (n : Int) (w : World) : Calls Try.prog 36 #[.int .i64 n] w fun r w' => r = .returned (.bool (decide (0 ≤ n ∧ n ≤ 1099511627776))) ∧ w' = w := by
  obtain ⟨ans, hans⟩ : ∃ ans, ans = decide (0 ≤ n ∧ n ≤ 1099511627776) := ⟨_, rfl⟩
  rw [← hans]
  have H : Hid _ := hans
  clear hans
  cases h1 : decide (0 ≤ n)
  · go_enter Try.func36, Try.ntmps36
    go_wp2
    go_ret
    exact ⟨by rw [H.out, decide_eq_false (fun h => of_decide_eq_false h1 h.1)]; rfl, rfl⟩
  · cases h2 : decide (n ≤ 1099511627776)
    · go_enter Try.func36, Try.ntmps36
      go_wp2
      go_ret
      exact ⟨by rw [H.out, decide_eq_false (fun h => of_decide_eq_false h2 h.2)]; rfl, rfl⟩
    · go_enter Try.func36, Try.ntmps36
      go_wp2
      go_ret
      exact ⟨by rw [H.out, decide_eq_true ⟨of_decide_eq_true h1, of_decide_eq_true h2⟩]; rfl, rfl⟩

end

section
theorem own_block {w w' : World} {base : Nat} {e : TypeId} {k : Nat} {v : Value} {n : Nat} {xs : List Value} (h : w.ownsRow base e k v n xs) (hs : ∀ g, v.ownBlock = some g → w'.heap[g]? = w.heap[g]?) : w'.ownsRow base e k v n xs := by
  refine ⟨h.1, ?_⟩
  rcases h.2 with hn | ⟨g, cap, cur, rfl, hb, hgg, rest⟩
  · exact .inl hn
  · exact .inr ⟨g, cap, cur, rfl, hb, by rw [hs g rfl]; exact hgg, rest⟩

theorem infoTms : (Try.prog.info? 89).map (fun i => (i.zero, i.size, i.bytes)) = some (some (.slice none 0 0), 1, 24) := by kernel_rfl

def Apart (a b : Value) : Prop := ∀ g, a.ownBlock = some g → b.ownBlock ≠ some g

structure OwnLs (w : World) (base : Nat) (v : Value) (vs : List Value) (ls : List (List Tm)) : Prop where
  row : w.ownsRow base 89 1 v ls.length vs
  each : Each (fun u l => w.ownsRow base 91 2 u l.length (tcells l)) vs ls
  apart : (v :: vs).Pairwise Apart

theorem OwnLs.keep {w w' : World} {base : Nat} {v : Value} {vs : List Value} {ls : List (List Tm)} (h : OwnLs w base v vs ls) (hk : ∀ g, base ≤ g → g < w.heap.size → w'.heap[g]? = w.heap[g]?) : OwnLs w' base v vs ls :=
  ⟨own_block h.row fun g hg => hk g (h.row.lt g hg).1 (h.row.lt g hg).2, h.each.mono fun u l hu => own_block hu fun g hg => hk g (hu.lt g hg).1 (hu.lt g hg).2, h.apart⟩

theorem OwnLs.below {w w' : World} {base : Nat} {v : Value} {vs : List Value} {ls : List (List Tm)} (h : OwnLs w base v vs ls) (hb : Below w.heap.size w w') : OwnLs w' base v vs ls :=
  h.keep fun g _ hg => hb.block g hg

theorem OwnLs.mono {w : World} {base b : Nat} {v : Value} {vs : List Value} {ls : List (List Tm)} (h : OwnLs w base v vs ls) (hb : b ≤ base) : OwnLs w b v vs ls :=
  ⟨h.row.mono hb, h.each.mono fun u l hu => hu.mono hb, h.apart⟩

end

section
def bare : List (List Tm) := List.replicate 25 []

theorem bare_own (w : World) : OwnLs (w.alloc (.cells (List.replicate 25 (Value.slice none 0 0)).toArray 89)) w.heap.size (.slice (some ⟨w.heap.size, 0, none⟩) 25 25) (List.replicate 25 (Value.slice none 0 0)) bare := by
  refine ⟨?_, ⟨by simp [bare], fun i h1 h2 => ?_⟩, ?_⟩
  · have := World.ownsRow_lit (base := w.heap.size) (e := 89) (size := 1) w (List.replicate 25 (Value.slice none 0 0)).toArray 25 (Nat.le_refl _) (by unfold maxLen; omega) (by simp)
    simpa [bare] using this
  · simp only [bare, List.getElem_replicate]
    exact World.ownsRow_nil _ _ _ _
  · refine List.pairwise_cons.2 ⟨fun x hx k hk e => ?_, List.pairwise_replicate.2 (.inr fun k hk => ?_)⟩
    · rw [(List.mem_replicate.1 hx).2] at e; cases e
    · cases hk

theorem made25 (W : World) : (Instr.makeSlice 45 (.int .i64 25) (.int .i64 25)).run Try.prog W = .ok (.slice (some ⟨W.heap.size, 0, none⟩) 25 25) (W.alloc (.cells (List.replicate 25 (Value.slice none 0 0)).toArray 89)) := by
  obtain ⟨i1, hj, hy0, hy1, hy2⟩ := info_parts infoTms
  have h := run_makeSlice (P := Try.prog) W 45 89 i1 _ Try.underlying45 hj hy0 .i64 .i64 25 25 (by decide) (by decide) (by rw [hy1]; decide) (by rw [hy2]; decide) (by decide)
  have e : madeCells (Value.slice none 0 0).cells (Int.toNat 25 * 1) = (List.replicate 25 (Value.slice none 0 0)).toArray := Array.toList_inj.1 (toList_madeCells_one (.slice none 0 0) 25)
  rw [h, hy1, e]
  rfl

theorem two_cells {w : World} {g : Nat} {a b : Value} {T : TypeId} (h : w.heap[g]? = some (.cells #[a, b] T (0, 0))) : w.cell? ⟨g, 0, none⟩ = some a ∧ w.cell? ⟨g, 1, none⟩ = some b ∧ w.frozen? ⟨g, 0, none⟩ = false ∧ w.frozen? ⟨g, 1, none⟩ = false ∧ g < w.heap.size := by
  refine ⟨by simp [World.cell?, h], by simp [World.cell?, h], by simp [World.frozen?, h], by simp [World.frozen?, h], ?_⟩
  exact (Array.getElem?_eq_some_iff.1 h).1

theorem two_set {w : World} {g : Nat} {a b c d : Value} {T : TypeId} (h : w.heap[g]? = some (.cells #[a, b] T (0, 0))) : ((w.setCell ⟨g, 0, none⟩ c).setCell ⟨g, 1, none⟩ d).heap[g]? = some (.cells #[c, d] T (0, 0)) :=
  heap_setCell_same _ _ 1 _ _ d (heap_setCell_same w g 0 _ _ c h)

theorem two_set_cells {w : World} {g : Nat} {a b c d : Value} {T : TypeId} (h : w.heap[g]? = some (.cells #[a, b] T (0, 0))) : ((w.setCell ⟨g, 0, none⟩ c).setCell ⟨g, 1, none⟩ d).cell? ⟨g, 0, none⟩ = some c ∧ ((w.setCell ⟨g, 0, none⟩ c).setCell ⟨g, 1, none⟩ d).cell? ⟨g, 1, none⟩ = some d :=
  ⟨(two_cells (two_set h)).1, (two_cells (two_set h)).2.1⟩

theorem OwnLs.set2 {w : World} {base g : Nat} {v : Value} {vs : List Value} {ls : List (List Tm)} (h : OwnLs w base v vs ls) (hg : g < base) (c d : Value) : OwnLs ((w.setCell ⟨g, 0, none⟩ c).setCell ⟨g, 1, none⟩ d) base v vs ls :=
  h.keep fun i h1 _ => by rw [Below.heap_setCell _ _ _ _ (by simp; omega), Below.heap_setCell _ _ _ _ (by simp; omega)]

set_option maxHeartbeats 1000000 in
theorem empty_any (now : Int) (w : World) : Calls Try.prog 37 #[.int .i64 now] w fun r w' => r = .returned (.agg #[.int .i64 now, .slice (some ⟨w.heap.size + 1, 0, none⟩) 25 25]) ∧ OwnLs w' (w.heap.size + 1) (.slice (some ⟨w.heap.size + 1, 0, none⟩) 25 25) (List.replicate 25 (Value.slice none 0 0)) bare ∧ w'.heap.size = w.heap.size + 2 ∧ Below w.heap.size w w' := by
  have hm := made25
  generalize hc : (List.replicate 25 (Value.slice none 0 0)).toArray = cs at hm
  have HC : Hid _ := hc
  clear hc
  go_enter Try.func37, Try.ntmps37
  go_wp2
  refine bodyPost_ret (v := .agg #[.int .i64 now, .slice (some ⟨w.heap.size + 1, 0, none⟩) 25 25]) (by simp [results, Try.results37, go_sem]) rfl ⟨rfl, ?_, by simp, ?_⟩
  · have h := bare_own (w.alloc (.cells #[.int .i64 now, .slice (some ⟨w.heap.size + 1, 0, none⟩) 25 25] 47))
    rw [HC.out] at h
    simpa using h
  · exact ((Below.refl _ _).alloc (Nat.le_refl _) _).alloc (by simp) _

set_option maxHeartbeats 1000000 in
theorem new_ok (now : Int) (w : World) (h : 0 ≤ now ∧ now ≤ 1099511627776) : Calls Try.prog 19 #[.int .i64 now] w fun r w' => ∃ v vs, r = .returned (.tuple #[.agg #[.int .i64 now, v], .int .i64 0]) ∧ OwnLs w' w.heap.size v vs bare ∧ Below w.heap.size w w' := by
  have hd : decide (0 ≤ now ∧ now ≤ 1099511627776) = true := decide_eq_true h
  clear h
  go_enter Try.func19, Try.ntmps19
  go_wp2_with fail
  refine (isTick_any _ _).mono ?_
  rw [hd]
  rintro r w1 ⟨rfl, rfl⟩
  go_wp2_with fail
  refine (empty_any _ _).mono ?_
  rintro r w1 ⟨rfl, hown, hsz, hb⟩
  have hs1 : (w.alloc (.cells #[.int .i64 0, .slice none 0 0] 47)).heap.size = w.heap.size + 1 := by simp
  rw [hs1] at hown
  have hh : w1.heap[w.heap.size]? = some (.cells #[.int .i64 0, .slice none 0 0] 47 (0, 0)) := (hb.block _ (by simp)).trans (heap_alloc_new _ _)
  obtain ⟨c0, c1, f0, f1, hlt⟩ := two_cells hh
  have H : Hid (_ ∧ _ ∧ _) := ⟨hh, hown, hb⟩
  clear hh hown hb
  go_wp2
  obtain ⟨e0, e1⟩ := two_set_cells (c := .int .i64 now) (d := .slice (some ⟨w.heap.size + 1 + 1, 0, none⟩) 25 25) H.out.1
  refine bodyPost_ret (v := .tuple #[.agg #[.int .i64 now, .slice (some ⟨w.heap.size + 1 + 1, 0, none⟩) 25 25], .int .i64 0]) (by simp [results, Try.results19, go_sem, e0, e1]) rfl ⟨_, List.replicate 25 (Value.slice none 0 0), rfl, ?_, ?_⟩
  · have h := H.out.2.1.set2 (g := w.heap.size) (by omega) (.int .i64 now) (.slice (some ⟨w.heap.size + 1 + 1, 0, none⟩) 25 25)
    exact h.mono (by omega)
  · exact ((((Below.refl _ _).alloc (Nat.le_refl _) _).trans (H.out.2.2.mono (by simp))).setCell (by simp) _).setCell (by simp) _

end

end Go.Proofs.Ytbabcpdcgncigaa.Wh
