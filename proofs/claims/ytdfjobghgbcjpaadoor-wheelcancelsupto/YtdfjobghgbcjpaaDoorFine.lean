/-
  Arm and Advance where all is well, in plain words: what the wheel holds then. The wheel may be; the timer fits and its number is new.
-/
import Derived.Test.YtdfjobghgbcjpaaDoorUniq
import Derived.Test.YtdfjobghgbcjpaaDoorAdv
import Derived.Test.YtdfjobghgbcjpaaDoorKeep
import Derived.WalkKit
import Derived.ProofKit
import Derived.Handy
import Derived.LoopTactic
import Derived.Below
import Derived.Laws.BitsAllLaws
import Derived.RegionTactic
import Derived.Deep.RegionHeld3
import Derived.Deep.DrawnRows
import Derived.Deep.AppendLies
import Derived.Laws.OwnMore
import Derived.Deep.Onto
import Derived.Deep.QuietTactic
import Derived.BigQuiet
namespace Go.Proofs.YtdfjobghgbcjpaaDoor.Walks
open Go.RowKit
set_option linter.unusedVariables false
set_option linter.unusedSimpArgs false
attribute [local go_sem ↓] Go.wp_at_zero Go.wp_at_succ

theorem nodup_small : ∀ (k : Nat) (l : List Int), l.Nodup → (∀ x ∈ l, 0 ≤ x ∧ x < (k : Int)) → l.length ≤ k
  | 0, l, _, h => by
    cases l with
    | nil => exact Nat.le_refl _
    | cons a l => have := h a (List.mem_cons_self ..); omega
  | k + 1, l, hn, h => by
    by_cases hk : (k : Int) ∈ l
    · have h1 := nodup_small k (l.erase (k : Int)) (hn.erase _) fun x hx => by
        have hm := (hn.mem_erase_iff).1 hx
        have := h x hm.2
        have h3 := hm.1
        omega
      have h2 := List.length_erase_of_mem hk
      have h3 := List.length_pos_of_mem hk
      omega
    · have h1 := nodup_small k l hn fun x hx => by
        have := h x hx
        have h3 : x ≠ (k : Int) := fun e => hk (e ▸ hx)
        omega
      omega

theorem Ok.mem_fits {now : Int} {ls : List (List Tm)} (h : Ok now ls) {t : Tm} (ht : t ∈ ls.flatten) : fitsT now t = true := by
  obtain ⟨l, hl, htl⟩ := List.mem_flatten.1 ht
  obtain ⟨i, hi, rfl⟩ := List.getElem_of_mem hl
  exact (h.fit i _ (List.getElem?_eq_getElem hi) t htl).1

theorem Ok.total {now : Int} {ls : List (List Tm)} (h : Ok now ls) : ls.flatten.length ≤ 200 := by
  have h1 := nodup_small 200 _ h.ids fun x hx => by
    obtain ⟨t, ht, rfl⟩ := List.mem_map.1 hx
    have := (fitsT_iff now t).1 (h.mem_fits ht)
    omega
  rwa [List.length_map] at h1

theorem Ok.total' {now : Int} {ls : List (List Tm)} (h : Ok now ls) : ls.flatten.length ≤ 1048576 := Nat.le_trans h.total (by omega)

theorem own_len {w : World} {base : Nat} {v : Value} {vs : List Value} {ls : List (List Tm)} (h : OwnLs w base v vs ls) {n : Nat} (hn : ls.length = n) : ∃ p c, v = .slice p n c := by
  obtain ⟨p, c, rfl⟩ := own_form h.row
  exact ⟨p, c, by rw [hn]⟩

/-- A wheel's lists in memory of their own, from a block on. -/
def OwnW (w : World) (base : Nat) (p : Option Addr) (c : Nat) (ls : List (List Tm)) : Prop := ∃ vs, OwnLs w base (.slice p 25 c) vs ls
theorem OwnW.at {w : World} {base c : Nat} {p : Option Addr} {ls : List (List Tm)} (h : OwnW w base p c ls) : LsAt w (.slice p 25 c) ls := h.elim fun _ h => h.at
theorem OwnW.below {w w' : World} {base c : Nat} {p : Option Addr} {ls : List (List Tm)} (h : OwnW w base p c ls) (hb : Below w.heap.size w w') : OwnW w' base p c ls := h.elim fun vs h => ⟨vs, h.below hb⟩
theorem OwnW.set2 {w : World} {base c g : Nat} {p : Option Addr} {ls : List (List Tm)} (h : OwnW w base p c ls) (hg : g < base) (x y : Value) : OwnW ((w.setCell ⟨g, 0, none⟩ x).setCell ⟨g, 1, none⟩ y) base p c ls := h.elim fun vs h => ⟨vs, h.set2 hg x y⟩
theorem OwnW.mono {w : World} {base b c : Nat} {p : Option Addr} {ls : List (List Tm)} (h : OwnW w base p c ls) (hb : b ≤ base) : OwnW w b p c ls := h.elim fun vs h => ⟨vs, h.mono hb⟩

/-- A wheel's lists in memory of their own, none in a given block. -/
def OffW (w : World) (G : Nat) (p : Option Addr) (c : Nat) (ls : List (List Tm)) : Prop := ∃ base vs, OwnLs w base (.slice p 25 c) vs ls ∧ ∀ u ∈ Value.slice p 25 c :: vs, u.ownBlock ≠ some G
theorem own_lt {w : World} {base c : Nat} {p : Option Addr} {vs : List Value} {ls : List (List Tm)} (h : OwnLs w base (.slice p 25 c) vs ls) {u : Value} (hu : u ∈ Value.slice p 25 c :: vs) {g : Nat} (hg : u.ownBlock = some g) : base ≤ g ∧ g < w.heap.size := by
  rcases List.mem_cons.1 hu with rfl | hu
  · exact h.row.lt g hg
  · obtain ⟨i, hi, rfl⟩ := List.getElem_of_mem hu
    exact (h.each.2 i hi (by rw [← h.each.1]; exact hi)).lt g hg
theorem OwnW.off {w : World} {base c G : Nat} {p : Option Addr} {ls : List (List Tm)} (h : OwnW w base p c ls) (hG : G < base ∨ w.heap.size ≤ G) : OffW w G p c ls := by
  obtain ⟨vs, h⟩ := h
  exact ⟨base, vs, h, fun u hu e => by have := own_lt h hu e; omega⟩
theorem OffW.at {w : World} {G c : Nat} {p : Option Addr} {ls : List (List Tm)} (h : OffW w G p c ls) : LsAt w (.slice p 25 c) ls := by
  obtain ⟨base, vs, h, _⟩ := h
  exact h.at
theorem OffW.below {w w' : World} {G c : Nat} {p : Option Addr} {ls : List (List Tm)} (h : OffW w G p c ls) (hb : Below w.heap.size w w') : OffW w' G p c ls := by
  obtain ⟨base, vs, h, h2⟩ := h
  exact ⟨base, vs, h.below hb, h2⟩
theorem OffW.set2 {w : World} {G c : Nat} {p : Option Addr} {ls : List (List Tm)} (h : OffW w G p c ls) (x y : Value) : OffW ((w.setCell ⟨G, 0, none⟩ x).setCell ⟨G, 1, none⟩ y) G p c ls := by
  obtain ⟨base, vs, h, h2⟩ := h
  have hk : ∀ u ∈ Value.slice p 25 c :: vs, ∀ g, u.ownBlock = some g → ((w.setCell ⟨G, 0, none⟩ x).setCell ⟨G, 1, none⟩ y).heap[g]? = w.heap[g]? := fun u hu g hg => by
    have hne : g ≠ G := fun e => h2 u hu (by rw [hg, e])
    rw [Below.heap_setCell _ _ _ _ (by simpa using hne), Below.heap_setCell _ _ _ _ (by simpa using hne)]
  refine ⟨base, vs, ⟨own_block h.row (hk _ (List.mem_cons_self ..)), ⟨h.each.1, fun i h1 h3 => own_block (h.each.2 i h1 h3) (hk _ (List.mem_cons_of_mem _ (List.getElem_mem h1)))⟩, h.apart⟩, h2⟩

theorem may_bare (n : Int) (h : 0 ≤ n) (h2 : n ≤ 1099511627776) : May n bare := ⟨⟨h, h2⟩, ok_bare n⟩

theorem arm_fine (v : Value) (now id x : Int) (ls : List (List Tm)) (w : World) (hB : Blk w) (hx : LsAt w v ls) (hm : May now ls) (hf : fitsT now (x, id) = true) (hn : ∀ t ∈ ls.flatten, t.2 ≠ id) :
    Calls Tryd.prog 7 #[.agg #[.int .i64 now, v], .int .i64 id, .int .i64 x] w fun r w' => ∃ p c, r = .returned (.tuple #[.agg #[.int .i64 now, .slice p 25 c], .int .i64 0]) ∧ OwnW w' w.heap.size p c (addT ls now (x, id)) ∧ May now (addT ls now (x, id)) ∧ Below w.heap.size w w' := by
  have hm2 := hm.add hf hn
  refine (arm_rest v now id x ls w hB hx (fun l hl => Nat.le_trans (len_le_flatten hl) hm.2.total') hm (fits_bounds hf hm.1.1).2.2).mono ?_
  rintro r w' ⟨hb, ⟨h1, _⟩ | ⟨_, h1, _⟩ | ⟨_, _, u, vs, rfl, hown⟩⟩
  · rw [hf] at h1; cases h1
  · exact absurd hn h1
  · obtain ⟨p, c, rfl⟩ := own_len hown hm2.2.len
    exact ⟨p, c, rfl, ⟨_, hown⟩, hm2, hb⟩

theorem arm_twice (v : Value) (now id x : Int) (ls : List (List Tm)) (w : World) (hB : Blk w) (hx : LsAt w v ls) (hm : May now ls) (hf : fitsT now (x, id) = true) (hn : ∃ t ∈ ls.flatten, t.2 = id) :
    Calls Tryd.prog 7 #[.agg #[.int .i64 now, v], .int .i64 id, .int .i64 x] w fun r w' => r = .returned (.tuple #[.agg #[.int .i64 0, .slice none 0 0], .int .i64 7]) ∧ Below w.heap.size w w' := by
  refine (arm_rest v now id x ls w hB hx (fun l hl => Nat.le_trans (len_le_flatten hl) hm.2.total') hm (fits_bounds hf hm.1.1).2.2).mono ?_
  rintro r w' ⟨hb, ⟨h1, _⟩ | ⟨_, _, h1⟩ | ⟨_, h1, _⟩⟩
  · rw [hf] at h1; cases h1
  · exact ⟨h1, hb⟩
  · obtain ⟨t, ht, e⟩ := hn
    exact absurd e (h1 t ht)

/-- A tick later: what is left, and who goes off. -/
structure Later (now : Int) (ls ms : List (List Tm)) (L : List Tm) : Prop where
  may : May (now + 1) ms
  left : ∀ t, t ∈ ms.flatten ↔ t ∈ ls.flatten ∧ t.1 ≠ now + 1
  off : ∀ t, t ∈ L ↔ t ∈ ls.flatten ∧ t.1 = now + 1
  ord : L.Pairwise (fun a b => cmpT a b < 0)
  len : L.length ≤ 200

theorem later_of {now : Int} {ls : List (List Tm)} (hm : May now ls) (hlt : now < 1099511627776) : Later now ls ((lev2 ls (now + 1)).set (spotNow (now + 1)) []) ((lev2 ls (now + 1)).getD (spotNow (now + 1)) []) := by
  have hG := hm.2.good hm.1.1 hm.2.total'
  have hG2 := hG.lev2 (now + 1)
  have hl : (lev2 ls (now + 1))[spotNow (now + 1)]? = some ((lev2 ls (now + 1)).getD (spotNow (now + 1)) []) := by
    simp [List.getD, List.getElem?_eq_getElem (show spotNow (now + 1) < (lev2 ls (now + 1)).length by rw [hG2.srt.len]; exact spot_lt _)]
  refine ⟨next_may hm hlt hG, fun t => mem_next hm hG t, next_off hm.2 hm.1.1 hG, hG2.srt.ord _ (List.mem_of_getElem? hl), ?_⟩
  have h1 := len_le_flatten (List.mem_of_getElem? hl)
  rw [(lev_perm hG (now + 1)).length_eq] at h1
  exact Nat.le_trans h1 hm.2.total

theorem advance_fine (v : Value) (now : Int) (ls : List (List Tm)) (w : World) (hB : Blk w) (hx : LsAt w v ls) (hm : May now ls) (hlt : now < 1099511627776) :
    Calls Tryd.prog 12 #[.agg #[.int .i64 now, v]] w fun r w' => ∃ p c xp xc ms L, r = .returned (.tuple #[.agg #[.int .i64 (now + 1), .slice p 25 c], .slice xp L.length xc, .int .i64 0]) ∧ OwnW w' w.heap.size p c ms ∧ Later now ls ms L ∧
      w'.ownsRow w.heap.size 3 1 (.slice xp L.length xc) L.length (idCells L) ∧ Below w.heap.size w w' := by
  have hL := later_of hm hlt
  refine (advance_rest v now ls w hB hx hm.2.total' hm).mono ?_
  rintro r w' ⟨hb, ⟨h1, _⟩ | ⟨_, u, vs, x, rfl, hown, hx⟩⟩
  · omega
  · obtain ⟨p, c, rfl⟩ := own_len hown hL.may.2.len
    obtain ⟨xp, xc, rfl⟩ := own_form hx
    exact ⟨p, c, xp, xc, _, _, rfl, ⟨_, hown⟩, hL, hx, hb⟩
end Go.Proofs.YtdfjobghgbcjpaaDoor.Walks
