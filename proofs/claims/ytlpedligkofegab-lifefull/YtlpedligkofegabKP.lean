/-
  What requests and wakings keep: plain mathematics.
-/
import Derived.Test.YtlpedligkofegabWake
import Derived.WalkKit
import Derived.ProofKit
import Derived.Handy
import Derived.LoopTactic
import Derived.Below
import Derived.Laws.BitsAllLaws
import Derived.RegionTactic
import Derived.Deep.RegionHeld3
import Derived.Deep.DrawnRows
import Derived.Deep.AppendLies
import Derived.Laws.OwnMore
import Derived.Deep.Onto
import Derived.Deep.QuietTactic
import Derived.BigQuiet
namespace Go.Proofs.Ytlpedligkofegab.Walks
open Go.RowKit
set_option linter.unusedVariables false
set_option linter.unusedSimpArgs false
attribute [local go_sem ↓] Go.wp_at_zero Go.wp_at_succ

theorem rise_len : ∀ (L : List Lf) (a : Int), L.Pairwise (fun x y => x.1 < y.1) → (∀ x ∈ L, a ≤ x.1 ∧ x.1 ≤ 11) → L = [] ∨ (L.length : Int) ≤ 12 - a
  | [], _, _, _ => .inl rfl
  | x :: l, a, h, hb => by
    right
    have h1 := List.pairwise_cons.1 h
    have hx := hb x (by simp)
    have := rise_len l (x.1 + 1) h1.2 fun y hy => ⟨by have := h1.1 y hy; omega, (hb y (by simp [hy])).2⟩
    rcases this with rfl | h2
    · simp; omega
    · simp; omega

theorem ls_len {L : List Lf} (h : LsOk L) : L.length ≤ 12 := by
  rcases rise_len L 0 h.2 (fun x hx => (h.1 x hx).1.1) with rfl | h2
  · simp
  · omega

theorem rise_set {L : List Lf} (h : L.Pairwise (fun x y => x.1 < y.1)) {i : Nat} (hi : i < L.length) {y : Lf} (hy : y.1 = L[i].1) : (L.set i y).Pairwise (fun x y => x.1 < y.1) := by
  rw [List.pairwise_iff_getElem] at h ⊢
  intro a b ha hb hab
  rw [List.length_set] at ha hb
  have := h a b ha hb hab
  rw [List.getElem_set, List.getElem_set]
  split <;> split
  · omega
  · rename_i e _; subst e; rw [hy]; exact this
  · rename_i _ e; subst e; rw [hy]; exact this
  · exact this

theorem mem_set_or {α : Type} {L : List α} {i : Nat} {x y : α} (h : x ∈ L.set i y) : x ∈ L ∨ x = y := List.mem_or_eq_of_mem_set h

theorem ls_set {L : List Lf} (h : LsOk L) {i : Nat} (hi : i < L.length) {y : Lf} (hy : y.1 = L[i].1) (hok : LfOk y) : LsOk (L.set i y) :=
  ⟨fun x hx => (mem_set_or hx).elim (h.1 x) (fun e => by rw [e]; exact hok), rise_set h.2 hi hy⟩

theorem mem_insAt {α : Type} {L : List α} {i : Nat} {x y : α} (h : x ∈ insAt L y i) : x ∈ L ∨ x = y := by
  unfold insAt at h
  rcases List.mem_append.1 h with h | h
  · exact .inl (List.mem_of_mem_take h)
  · rcases List.mem_cons.1 h with h | h
    · exact .inr h
    · exact .inl (List.mem_of_mem_drop h)

theorem rise_ins {L : List Lf} (h : L.Pairwise (fun x y => x.1 < y.1)) {n : Int} (hh : here L n = false) {y : Lf} (hy : y.1 = n) : (insAt L y (pos L n)).Pairwise (fun x y => x.1 < y.1) := by
  unfold insAt
  have hne := here_none hh h
  have hp := pos_le L n
  have hlo : ∀ a ∈ L.take (pos L n), a.1 < n := by
    intro a ha
    obtain ⟨j, hj, rfl⟩ := List.mem_take_iff_getElem.1 ha
    exact pos_before (by omega)
  have hhi : ∀ b ∈ L.drop (pos L n), n < b.1 := by
    intro b hb
    obtain ⟨j, hj, rfl⟩ := List.mem_drop_iff_getElem.1 hb
    have h1 := pos_there (L := L) (n := n) (by omega)
    have h2 := hne L[pos L n + j] (List.getElem_mem _)
    rcases Nat.eq_zero_or_pos j with e | e
    · subst e
      simp only [Nat.add_zero] at h2 ⊢
      omega
    · have h3 := List.pairwise_iff_getElem.1 h (pos L n) (pos L n + j) (by omega) (by omega) (by omega)
      omega
  refine List.pairwise_append.2 ⟨h.sublist (List.take_sublist _ _), List.pairwise_cons.2 ⟨fun b hb => by rw [hy]; exact hhi b hb, h.sublist (List.drop_sublist _ _)⟩, fun a ha b hb => ?_⟩
  rcases List.mem_cons.1 hb with rfl | hb
  · rw [hy]; exact hlo a ha
  · have := hlo a ha
    have := hhi b hb
    omega

theorem ls_ins {L : List Lf} (h : LsOk L) {n : Int} (hh : here L n = false) {y : Lf} (hy : y.1 = n) (hok : LfOk y) : LsOk (insAt L y (pos L n)) :=
  ⟨fun x hx => (mem_insAt hx).elim (h.1 x) (fun e => by rw [e]; exact hok), rise_ins h.2 hh hy⟩

theorem getD_at {L : List Lf} {n : Int} (h : here L n = true) : L[pos L n]?.getD (0, 0, 0, 0, 0, 0) = L[pos L n]'(here_lt h) := by
  rw [List.getElem?_eq_getElem (here_lt h)]
  rfl

theorem join_mem {L : List Lf} {n m : Int} {x : Lf} (h : x ∈ (joinO L n m).1) : x ∈ L ∨ (x = (n, 1, m, 0, 0, 0) ∧ (0 ≤ n ∧ n ≤ 11) ∧ (1 ≤ m ∧ m ≤ 8)) := by
  unfold joinO at h
  split at h
  · exact .inl h
  · rename_i hc
    have hb : (0 ≤ n ∧ n ≤ 11) ∧ (1 ≤ m ∧ m ≤ 8) := by omega
    split at h
    · split at h
      · exact (mem_set_or h).imp id (fun e => ⟨e, hb⟩)
      · exact .inl h
    · exact (mem_insAt h).imp id (fun e => ⟨e, hb⟩)

theorem join_ok {L : List Lf} (h : LsOk L) (n m : Int) : LsOk (joinO L n m).1 := by
  unfold joinO
  split
  · exact h
  · rename_i hc
    have hb : (0 ≤ n ∧ n ≤ 11) ∧ (1 ≤ m ∧ m ≤ 8) := by omega
    have hok : LfOk (n, 1, m, 0, 0, 0) := ⟨⟨hb.1, hb.2, (show (0 : Int) ≤ 0 ∧ (0 : Int) ≤ 1099511627776 by decide), (show (0 : Int) ≤ 0 ∧ (0 : Int) ≤ 1099511628276 by decide), (show (0 : Int) ≤ 0 ∧ (0 : Int) ≤ 1048576 by decide)⟩, .inl ⟨rfl, rfl, rfl, rfl⟩⟩
    split
    · rename_i hh
      split
      · exact ls_set h (here_lt hh) (here_is hh).symm hok
      · exact h
    · rename_i hh
      exact ls_ins h (by simpa using hh) rfl hok

theorem retire_mem {L : List Lf} {n id u : Int} {x : Lf} (h : x ∈ (retireO L n id u).1) : x ∈ L ∨ ∃ y ∈ L, x = goes y u id := by
  unfold retireO at h
  split at h
  · rename_i hh
    split at h
    · exact .inl h
    · split at h
      · exact .inl h
      · rw [getD_at hh] at h
        exact (mem_set_or h).imp (fun e => e) (fun e => ⟨_, List.getElem_mem _, e⟩)
  · exact .inl h

theorem goes_ok {y : Lf} (h : LfOk y) {u id : Int} (hu : 0 ≤ u ∧ u ≤ 1099511628276) (hid : 0 ≤ id ∧ id ≤ 1048576) : LfOk (goes y u id) := by
  refine ⟨⟨h.1.1, h.1.2.1, h.1.2.2.1, hu, hid⟩, ?_⟩
  unfold goes
  by_cases h2 : y.2.1 = 2
  · rw [if_pos h2]; exact .inr (.inr (.inl rfl))
  · rw [if_neg h2]; exact .inr (.inr (.inr rfl))

theorem retire_ok {L : List Lf} (h : LsOk L) (n : Int) {id u : Int} (hu : 0 ≤ u ∧ u ≤ 1099511628276) (hid : 0 ≤ id ∧ id ≤ 1048576) : LsOk (retireO L n id u).1 := by
  unfold retireO
  split
  · rename_i hh
    split
    · exact h
    · split
      · exact h
      · rw [getD_at hh]
        exact ls_set h (here_lt hh) rfl (goes_ok (h.1 _ (List.getElem_mem _)) hu hid)
  · exact h

theorem old_none {R : List Rq} {id : Int} (h : ¬ oldAt R id < R.length) : ∀ r ∈ R, r.1 ≠ id := by
  intro r hr e
  have : oldAt R id < R.length := List.findIdx_lt_length_of_exists ⟨r, hr, by simpa using e⟩
  exact h this

theorem old_no {R : List Rq} {id : Int} (h : ∀ r ∈ R, r.1 ≠ id) : ¬ oldAt R id < R.length := by
  intro hlt
  have := List.findIdx_getElem (w := hlt)
  unfold oldAt at hlt
  exact h _ (List.getElem_mem hlt) (by simpa using this)

theorem rs_snoc {R : List Rq} (h : RsOk R) {r : Rq} (hr : RqOk r) (hn : ∀ q ∈ R, q.1 ≠ r.1) : RsOk (R ++ [r]) := by
  refine ⟨fun x hx => ?_, List.pairwise_append.2 ⟨h.2, by simp, fun a ha b hb => ?_⟩⟩
  · rcases List.mem_append.1 hx with hx | hx
    · exact h.1 x hx
    · simp at hx
      rw [hx]; exact hr
  · simp at hb
    rw [hb]; exact hn a ha

/-- What a new request makes of a book. -/
theorem take_is {L : List Lf} {R : List Rq} (hb : BkOk L R) (hR : R.length < 100) {r : Rq} (hr : RqOk r) (hn : ∀ q ∈ R, q.1 ≠ r.1) {u : Int} (hu : 0 ≤ u ∧ u ≤ 1099511628276) :
    BkOk (takeO L R r u).1.1 (takeO L R r u).1.2 ∧ (takeO L R r u).1.2.length = R.length + 1 ∧ (∀ q ∈ (takeO L R r u).1.2, q ∈ R ∨ q.1 = r.1) ∧ (∀ x ∈ (takeO L R r u).1.1, x ∈ L ∨ (r.2.1 = 1 ∧ x = (r.2.2.1, 1, r.2.2.2.1, 0, 0, 0)) ∨ ∃ y ∈ L, x = goes y u r.1) := by
  unfold takeO
  split
  · rename_i hk
    have hl := join_ok hb.1.2 r.2.2.1 r.2.2.2.1
    refine ⟨⟨⟨ls_len hl, hl⟩, by simp; omega, rs_snoc hb.2.2 hr hn⟩, by simp, fun q hq => ?_, fun x hx => ?_⟩
    · rcases List.mem_append.1 hq with hq | hq
      · exact .inl hq
      · simp at hq; exact .inr (by rw [hq])
    · exact (join_mem hx).imp id (fun h => .inl ⟨hk, h.1⟩)
  · have hl := retire_ok hb.1.2 r.2.2.1 hu hr.1
    refine ⟨⟨⟨ls_len hl, hl⟩, by simp; omega, rs_snoc hb.2.2 hr hn⟩, by simp, fun q hq => ?_, fun x hx => ?_⟩
    · rcases List.mem_append.1 hq with hq | hq
      · exact .inl hq
      · simp at hq; exact .inr (by rw [hq])
    · exact (retire_mem hx).imp id .inr

theorem ask_new {L : List Lf} {R : List Rq} (hb : BkOk L R) (hR : R.length < 100) {r : Rq} {now drain : Int} (ha : AskOk r now drain) (hn : ∀ q ∈ R, q.1 ≠ r.1) : askO L R r now drain = ((takeO L R r (now + drain)).1, (takeO L R r (now + drain)).2, true, 0) := by
  unfold askO
  rw [if_pos hb, if_pos ha, if_neg (old_no hn), if_neg (by omega)]

theorem ask_old {L : List Lf} {R : List Rq} (hb : BkOk L R) {r : Rq} {now drain : Int} (ha : AskOk r now drain) (hn : oldAt R r.1 < R.length) : askO L R r now drain = ((L, R), (R[oldAt R r.1]?.getD (0, 0, 0, 0, 0)).2.2.2.2, false, 0) := by
  unfold askO
  rw [if_pos hb, if_pos ha, if_pos hn]

theorem wakes_first (now : Int) (x : Lf) : (wakes now x).1 = x.1 := by unfold wakes; split <;> rfl

theorem wakes_ok {now : Int} (hn : 0 ≤ now ∧ now ≤ 1099511627776) {x : Lf} (h : LfOk x) : LfOk (wakes now x) := by
  unfold wakes
  split
  · rename_i h1
    rcases h.2 with h2 | h2 | h2 | h2
    · exact ⟨⟨h.1.1, h.1.2.1, hn, h.1.2.2.2.1, h.1.2.2.2.2⟩, .inr (.inl ⟨rfl, h2.2.2.1, h2.2.2.2⟩)⟩
    · rw [h1] at h2; exact absurd h2.1 (by decide)
    · rw [h1] at h2; exact absurd h2 (by decide)
    · rw [h1] at h2; exact absurd h2 (by decide)
  · exact h

theorem wake_ok {L : List Lf} {R : List Rq} (hb : BkOk L R) {now : Int} (hn : 0 ≤ now ∧ now ≤ 1099511627776) : BkOk (L.map (wakes now)) R := by
  refine ⟨⟨by rw [List.length_map]; exact hb.1.1, fun x hx => ?_, ?_⟩, hb.2⟩
  · obtain ⟨y, hy, rfl⟩ := List.mem_map.1 hx
    exact wakes_ok hn (hb.1.2.1 y hy)
  · rw [List.pairwise_map]
    refine hb.1.2.2.imp fun {a b} h => ?_
    rw [wakes_first, wakes_first]
    exact h

theorem wake_is {L : List Lf} {R : List Rq} (hb : BkOk L R) {now : Int} (hn : 0 ≤ now ∧ now ≤ 1099511627776) : wakeO L R now = ((L.map (wakes now), R), wokenL L, 0) := by
  unfold wakeO
  rw [if_pos hb, if_pos hn]

/-- A book behind some requests: what it keeps. -/
structure AInv (L : List Lf) (R : List Rq) (now : Int) (k : Nat) : Prop where
  ok : BkOk L R
  len : R.length ≤ k
  some : R.length = 0 ↔ k = 0
  ids : ∀ r ∈ R, r.1 < 12
  lives : ∀ x ∈ L, x.1 < 5 ∧ x.2.2.2.1 ≤ now
  now0 : 0 ≤ now
  nowk : now ≤ 2 * k

theorem ainv_nil : AInv [] [] 0 0 := ⟨⟨⟨by decide, by simp, .nil⟩, by decide, by simp, .nil⟩, by decide, by simp, by simp, by simp, by decide, by decide⟩

theorem ainv_ask {L : List Lf} {R : List Rq} {now : Int} {k : Nat} (h : AInv L R now k) (hk : k < 30) {i1 i2 i3 i4 : Int} (h1 : 0 ≤ i1 ∧ i1 < 12) (h2 : i2 = 1 ∨ i2 = 2) (h3 : i3 < 5) :
    ∃ L' R' a f, askO L R (i1, i2, i3, i4, 0) now 9 = ((L', R'), a, f, 0) ∧ AInv L' R' now (k + 1) ∧ 0 < R'.length := by
  have h0 := h.now0
  have hn := h.nowk
  have hrq : RqOk (i1, i2, i3, i4, 0) := ⟨⟨h1.1, by show i1 ≤ 1048576; omega⟩, h2⟩
  have hask : AskOk (i1, i2, i3, i4, 0) now 9 := ⟨hrq, ⟨h0, by omega⟩, by decide⟩
  by_cases ho : oldAt R i1 < R.length
  · refine ⟨L, R, _, _, ask_old h.ok hask ho, ⟨h.ok, by have := h.len; omega, ⟨fun e => by omega, fun e => by omega⟩, h.ids, h.lives, h0, by omega⟩, by omega⟩
  · have hne := old_none ho
    obtain ⟨t1, t2, t3, t4⟩ := take_is h.ok (by have := h.len; omega) hrq hne (u := now + 9) (by omega)
    refine ⟨_, _, _, _, ask_new h.ok (by have := h.len; omega) hask hne, ⟨t1, by rw [t2]; have := h.len; omega, ⟨fun e => by rw [t2] at e; omega, fun e => by omega⟩, fun q hq => ?_, fun x hx => ?_, h0, by omega⟩, by rw [t2]; omega⟩
    · rcases t3 q hq with e | e
      · exact h.ids q e
      · rw [e]; exact h1.2
    · rcases t4 x hx with e | ⟨_, rfl⟩ | ⟨y, hy, rfl⟩
      · exact h.lives x e
      · exact ⟨h3, h0⟩
      · exact h.lives y hy

theorem ainv_wake {L : List Lf} {R : List Rq} {now : Int} {k : Nat} (h : AInv L R now (k + 1)) (hk : k < 30) {d : Int} (hd : 0 ≤ d ∧ d ≤ 2) (hnow : now ≤ 2 * k) :
    wakeO L R (now + d) = ((L.map (wakes (now + d)), R), wokenL L, 0) ∧ AInv (L.map (wakes (now + d))) R (now + d) (k + 1) := by
  have h0 := h.now0
  have hn : 0 ≤ now + d ∧ now + d ≤ 1099511627776 := by omega
  refine ⟨wake_is h.ok hn, ⟨wake_ok h.ok hn, h.len, h.some, h.ids, fun x hx => ?_, hn.1, by omega⟩⟩
  obtain ⟨y, hy, rfl⟩ := List.mem_map.1 hx
  rw [wakes_first]
  refine ⟨(h.lives y hy).1, ?_⟩
  unfold wakes
  split
  · exact Int.le_refl _
  · have := (h.lives y hy).2; omega
end Go.Proofs.Ytlpedligkofegab.Walks
