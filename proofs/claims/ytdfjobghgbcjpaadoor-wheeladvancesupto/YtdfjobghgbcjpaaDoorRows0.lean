/-
  Rows of cells that can be read: a list of timers, a list of such lists, a wheel; and when two lists of timers, and two wheels, are the same. No condition but that what is compared can be read.
-/
import Derived.Test.YtdfjobghgbcjpaaDoorRows
import Derived.Test.YtdfjobghgbcjpaaDoorChecked
import Derived.WalkKit
import Derived.ProofKit
import Derived.Handy
import Derived.LoopTactic
import Derived.Below
import Derived.Laws.BitsAllLaws
import Derived.RegionTactic
import Derived.Deep.RegionHeld3
import Derived.Deep.DrawnRows
import Derived.Deep.AppendLies
import Derived.Laws.OwnMore
import Derived.Deep.Onto
import Derived.Deep.QuietTactic
import Derived.BigQuiet
namespace Go.Proofs.YtdfjobghgbcjpaaDoor.Walks
open Go.RowKit
set_option linter.unusedVariables false
set_option linter.unusedSimpArgs false
attribute [local go_sem ↓] Go.wp_at_zero Go.wp_at_succ

/-- A timer: its tick, its number. -/
abbrev Tm := Int × Int

def tcells : List Tm → List Value
  | [] => []
  | t :: l => .int .i64 t.1 :: .int .i64 t.2 :: tcells l

theorem tcells_len : ∀ l : List Tm, (tcells l).length = l.length * 2
  | [] => rfl
  | t :: l => by simp [tcells, tcells_len l]; omega

theorem tcells_append : ∀ l m : List Tm, tcells (l ++ m) = tcells l ++ tcells m
  | [], _ => rfl
  | t :: l, m => by simp [tcells, tcells_append l m]

theorem tcells_at : ∀ (l : List Tm) (i : Nat) (h : i < l.length), (tcells l)[i * 2]? = some (.int .i64 l[i].1) ∧ (tcells l)[i * 2 + 1]? = some (.int .i64 l[i].2)
  | t :: l, 0, _ => by simp [tcells]
  | t :: l, i + 1, h => by
    have h2 := tcells_at l i (by simpa using h)
    rw [show (i + 1) * 2 = i * 2 + 1 + 1 by omega]
    simpa [tcells] using h2

/-- A slice that can be read: how many elements, and the cells that they take. -/
def RowAt (w : World) (v : Value) (n : Nat) (xs : List Value) : Prop :=
  ∃ a cap, v = .slice a n cap ∧ n ≤ cap ∧ cap ≤ maxLen ∧ (n = 0 ∧ xs = [] ∨ ∃ b off, a = some ⟨b, off, none⟩ ∧ b < w.heap.size ∧ ∀ i, i < xs.length → w.cell? ⟨b, off + i, none⟩ = xs[i]?)

theorem RowAt.below {w w' : World} {v : Value} {n : Nat} {xs : List Value} (h : RowAt w v n xs) (hb : Below w.heap.size w w') : RowAt w' v n xs := by
  obtain ⟨a, cap, hv, hc, hm, h1 | ⟨b, off, h1, h2, h3⟩⟩ := h
  · exact ⟨a, cap, hv, hc, hm, .inl h1⟩
  · exact ⟨a, cap, hv, hc, hm, .inr ⟨b, off, h1, Nat.lt_of_lt_of_le h2 hb.size, fun i hi => by rw [hb.cell (p := ⟨b, off + i, none⟩) h2]; exact h3 i hi⟩⟩

theorem rowAt_nil (w : World) : RowAt w (.slice none 0 0) 0 [] := ⟨none, 0, rfl, Nat.le_refl _, by unfold maxLen; omega, .inl ⟨rfl, rfl⟩⟩

theorem rowAt_own {w : World} {base : Nat} {e : TypeId} {k : Nat} {v : Value} {n : Nat} {xs : List Value} (h : w.ownsRow base e k v n xs) : RowAt w v n xs := by
  obtain ⟨hl, ⟨rfl, rfl⟩ | ⟨g, cap, cur, rfl, hb, hg, hn, hm, hs, ht⟩⟩ := h
  · obtain rfl : xs = [] := List.length_eq_zero_iff.1 (by simpa using hl)
    exact rowAt_nil w
  · refine ⟨_, cap, rfl, hn, hm, .inr ⟨g, 0, rfl, ?_, fun i hi => ?_⟩⟩
    · rcases Nat.lt_or_ge g w.heap.size with hlt | hge
      · exact hlt
      · rw [Array.getElem?_eq_none hge] at hg; cases hg
    · rw [← ht, List.getElem?_take_of_lt (by omega)]
      simp only [World.cell?, hg, Nat.zero_add]
      simp

def TmAt (w : World) (v : Value) (l : List Tm) : Prop := RowAt w v l.length (tcells l)

theorem TmAt.below {w w' : World} {v : Value} {l : List Tm} (h : TmAt w v l) (hb : Below w.heap.size w w') : TmAt w' v l := RowAt.below h hb

theorem TmAt.parts {w : World} {v : Value} {l : List Tm} (h : TmAt w v l) :
    ∃ a cap, v = .slice a l.length cap ∧ l.length ≤ cap ∧ cap ≤ maxLen ∧ ∀ i (hi : i < l.length), ∃ b off, a = some ⟨b, off, none⟩ ∧ b < w.heap.size ∧ w.cell? ⟨b, off + i * 2, none⟩ = some (.int .i64 l[i].1) ∧ w.cell? ⟨b, off + i * 2 + 1, none⟩ = some (.int .i64 l[i].2) := by
  obtain ⟨a, cap, hv, hc, hm, h1 | ⟨b, off, h1, h2, h3⟩⟩ := h
  · exact ⟨a, cap, hv, hc, hm, fun i hi => absurd hi (by omega)⟩
  · refine ⟨a, cap, hv, hc, hm, fun i hi => ⟨b, off, h1, h2, ?_, ?_⟩⟩
    · rw [h3 (i * 2) (by rw [tcells_len]; omega)]; exact (tcells_at l i hi).1
    · rw [Nat.add_assoc, h3 (i * 2 + 1) (by rw [tcells_len]; omega)]; exact (tcells_at l i hi).2

theorem unlike_pair (a b c d : Int) : (a = c ∧ b = d) ∨ ((a == c) = false ∨ a = c ∧ (b == d) = false) := by
  simp only [beq_eq_false_iff_ne]
  by_cases h : a = c <;> by_cases h' : b = d <;> simp [h, h']

set_option maxHeartbeats 1000000 in
theorem sameTimers (u v : Value) (l m : List Tm) (w : World) (hu : TmAt w u l) (hv : TmAt w v m) :
    Calls Tryd.prog 23 #[u, v] w fun r w' => r = .returned (.bool (decide (l = m))) ∧ ∃ q, w' = w.drewN q := by
  obtain ⟨a, ca, rfl, hca, hma, pa⟩ := hu.parts
  obtain ⟨b, cb, rfl, hcb, hmb, pb⟩ := hv.parts
  unfold maxLen at hma hmb
  by_cases hlen : l.length = m.length
  · have HL : Hid (l.length = m.length) := hlen
    rw [← hlen] at hcb ⊢
    clear hlen
    go_enter Tryd.func23, Tryd.ntmps23
    go_wp2
    go_loopw [5] (fun i wr => ∃ k : Nat, i = .int .i64 k ∧ k ≤ l.length ∧ (∀ j, j < k → l[j]? = m[j]?) ∧ ∃ q, wr = w.drewN q) (fun i _ => l.length - (intOf i).toNat)
    case atStart => exact ⟨0, rfl, Nat.zero_le _, fun j hj => absurd hj (Nat.not_lt_zero _), 0, rfl⟩
    case round =>
      obtain ⟨k, rfl, hk, hall, q, rfl⟩ := hrel
      have HA : Hid _ := hall
      clear hall
      by_cases hlt : k < l.length
      · obtain ⟨b1, o1, rfl, hb1, c1, d1⟩ := pa k hlt
        obtain ⟨b2, o2, rfl, hb2, c2, d2⟩ := pb k (by rw [← HL.out]; exact hlt)
        clear hb1 hb2 pa pb
        obtain ⟨x1, hx1⟩ : ∃ x, x = l[k].1 := ⟨_, rfl⟩
        obtain ⟨y1, hy1⟩ : ∃ x, x = l[k].2 := ⟨_, rfl⟩
        obtain ⟨x2, hx2⟩ : ∃ x, x = (m[k]'(by rw [← HL.out]; exact hlt)).1 := ⟨_, rfl⟩
        obtain ⟨y2, hy2⟩ : ∃ x, x = (m[k]'(by rw [← HL.out]; exact hlt)).2 := ⟨_, rfl⟩
        rw [← hx1] at c1
        rw [← hy1] at d1
        rw [← hx2] at c2
        rw [← hy2] at d2
        have HX : Hid (_ ∧ _ ∧ _ ∧ _) := ⟨hx1, hy1, hx2, hy2⟩
        clear hx1 hy1 hx2 hy2
        rcases unlike_pair x1 y1 x2 y2 with ⟨rfl, rfl⟩ | hne
        · go_wp2
          go_region
          go_wp2
          go_roundw
          case rel =>
            refine ⟨k + 1, by simp, hlt, fun j hj => ?_, q + 1, rfl⟩
            rcases Nat.lt_succ_iff_lt_or_eq.1 hj with h | rfl
            · exact HA.out j h
            · rw [List.getElem?_eq_getElem hlt, List.getElem?_eq_getElem (by rw [← HL.out]; exact hlt)]
              obtain ⟨h1, h2, h3, h4⟩ := HX.out
              exact congrArg some (Prod.ext (h1.symm.trans h3) (h2.symm.trans h4))
          case measure => simp [intOf]; omega
        · have HN : Hid (decide (l = m) = false) := by
            refine decide_eq_false fun h => ?_
            subst h
            obtain ⟨h1, h2, h3, h4⟩ := HX.out
            rcases hne with hne | ⟨_, hne⟩
            · rw [h1, ← h3] at hne; simp at hne
            · rw [h2, ← h4] at hne; simp at hne
          rcases hne with hne | ⟨rfl, hne⟩
          all_goals
            go_wp2
            go_region
            go_wp2
            go_ret
            exact ⟨by rw [HN.out]; rfl, q + 1, rfl⟩
      · have HE : Hid (decide (l = m) = true) := by
          refine decide_eq_true (List.ext_getElem? fun j => ?_)
          rcases Nat.lt_or_ge j k with h | h
          · exact HA.out j h
          · rw [List.getElem?_eq_none (by omega), List.getElem?_eq_none (by rw [← HL.out]; omega)]
        clear pa pb
        go_wp2
        go_ret
        exact ⟨by rw [HE.out]; rfl, q, rfl⟩
  · have HN : Hid (decide (l = m) = false) := decide_eq_false fun h => hlen (by rw [h])
    clear pa pb
    have hne : ((l.length : Int) != (m.length : Int)) = true := by simp [bne_iff_ne]; omega
    go_enter Tryd.func23, Tryd.ntmps23
    go_wp2
    go_ret
    exact ⟨by rw [HN.out]; rfl, 0, rfl⟩

/-- Two lists, each with its own. -/
def Each {α β : Type} (R : α → β → Prop) (l : List α) (m : List β) : Prop := l.length = m.length ∧ ∀ i (h1 : i < l.length) (h2 : i < m.length), R l[i] m[i]

/-- A slice of such lists. -/
def LsAt (w : World) (v : Value) (ls : List (List Tm)) : Prop := ∃ vs, RowAt w v ls.length vs ∧ Each (TmAt w) vs ls

theorem Each.mono {α β : Type} {R S : α → β → Prop} (hRS : ∀ a b, R a b → S a b) {l : List α} {m : List β} (h : Each R l m) : Each S l m := ⟨h.1, fun i h1 h2 => hRS _ _ (h.2 i h1 h2)⟩

theorem LsAt.below {w w' : World} {v : Value} {ls : List (List Tm)} (h : LsAt w v ls) (hb : Below w.heap.size w w') : LsAt w' v ls := by
  obtain ⟨vs, h1, h2⟩ := h
  exact ⟨vs, h1.below hb, h2.mono (fun _ _ h => h.below hb)⟩

theorem LsAt.parts {w : World} {v : Value} {ls : List (List Tm)} (h : LsAt w v ls) :
    ∃ a cap, v = .slice a ls.length cap ∧ ls.length ≤ cap ∧ cap ≤ maxLen ∧ ∀ i (hi : i < ls.length), ∃ b off u, a = some ⟨b, off, none⟩ ∧ b < w.heap.size ∧ w.cell? ⟨b, off + i, none⟩ = some u ∧ TmAt w u ls[i] := by
  obtain ⟨vs, ⟨a, cap, hv, hc, hm, h1⟩, h2⟩ := h
  have hl := h2.1
  refine ⟨a, cap, hv, hc, hm, fun i hi => ?_⟩
  obtain ⟨h0, _⟩ | ⟨b, off, ha, hb, hcell⟩ := h1
  · omega
  · exact ⟨b, off, vs[i]'(by omega), ha, hb, by rw [hcell i (by omega)]; exact List.getElem?_eq_getElem _, h2.2 i (by omega) hi⟩

/-- A wheel that can be read. -/
def WhAt (w : World) (x : Value) (now : Int) (ls : List (List Tm)) : Prop := ∃ v, x = .agg #[.int .i64 now, v] ∧ LsAt w v ls

theorem WhAt.below {w w' : World} {x : Value} {now : Int} {ls : List (List Tm)} (h : WhAt w x now ls) (hb : Below w.heap.size w w') : WhAt w' x now ls := by
  obtain ⟨v, h1, h2⟩ := h
  exact ⟨v, h1, h2.below hb⟩

theorem below_drewN {B : Nat} {a w : World} (h : Below B a w) (n : Nat) : Below B a (w.drewN n) := h.trans ⟨rfl, rfl, rfl, Nat.le_refl _, fun _ _ => rfl⟩

theorem below_of {w w' : World} {B : Nat} (h : Below B w w') (hB : w.heap.size ≤ B) : Below w.heap.size w w' := h.mono hB

set_option maxHeartbeats 1000000 in
theorem sameWheel (x y : Value) (n1 n2 : Int) (l m : List (List Tm)) (w : World) (hx : WhAt w x n1 l) (hy : WhAt w y n2 m) :
    Calls Tryd.prog 9 #[x, y] w fun r w' => r = .returned (.bool (decide (n1 = n2 ∧ l = m))) ∧ Below w.heap.size w w' := by
  obtain ⟨u, rfl, hu⟩ := hx
  obtain ⟨v, rfl, hv⟩ := hy
  obtain ⟨a, ca, rfl, hca, hma, pa⟩ := hu.parts
  obtain ⟨b, cb, rfl, hcb, hmb, pb⟩ := hv.parts
  unfold maxLen at hma hmb
  by_cases hn : n1 = n2
  · by_cases hlen : l.length = m.length
    · have HL : Hid (l.length = m.length) := hlen
      rw [← hlen] at hcb ⊢
      subst hn
      obtain ⟨ans, hans⟩ : ∃ ans, ans = decide (n1 = n1 ∧ l = m) := ⟨_, rfl⟩
      have HN : Hid _ := hans
      rw [← hans]
      clear hans hlen
      go_enter Tryd.func9, Tryd.ntmps9
      go_wp2
      go_loopw [5] (fun i wr => ∃ k : Nat, i = .int .i64 k ∧ k ≤ l.length ∧ (∀ j, j < k → l[j]? = m[j]?) ∧ Below (w.heap.size + 2) ((w.alloc (.cells #[.int .i64 n1, .slice a l.length ca] 24)).alloc (.cells #[.int .i64 n1, .slice b l.length cb] 24)) wr) (fun i _ => l.length - (intOf i).toNat)
      case atStart => exact ⟨0, rfl, Nat.zero_le _, fun j hj => absurd hj (Nat.not_lt_zero _), Below.refl _ _⟩
      case round =>
        obtain ⟨k, rfl, hk, hall, hb⟩ := hrel
        have HA : Hid (_ ∧ _) := ⟨hall, hb⟩
        clear hall
        have f1 : wr.cell? ⟨w.heap.size, 1, none⟩ = some (.slice a l.length ca) := by rw [hb.cell (p := ⟨w.heap.size, 1, none⟩) (by simp)]; simp
        have f2 : wr.cell? ⟨w.heap.size + 1, 1, none⟩ = some (.slice b l.length cb) := by rw [hb.cell (p := ⟨w.heap.size + 1, 1, none⟩) (by simp)]; simp
        have hbw : Below w.heap.size w wr := (((Below.refl _ _).alloc (Nat.le_refl _) _).alloc (by simp) _).trans (hb.mono (by omega))
        by_cases hlt : k < l.length
        · obtain ⟨b1, o1, u1, rfl, hb1, c1, t1⟩ := pa k hlt
          obtain ⟨b2, o2, u2, rfl, hb2, c2, t2⟩ := pb k (by rw [← HL.out]; exact hlt)
          have e1 := (hbw.cell (p := ⟨b1, o1 + k, none⟩) hb1).trans c1
          have e2 := (hbw.cell (p := ⟨b2, o2 + k, none⟩) hb2).trans c2
          have t1' := fun q => (t1.below hbw).below (below_drewN (Below.refl _ wr) q)
          have t2' := fun q => (t2.below hbw).below (below_drewN (Below.refl _ wr) q)
          clear c1 c2 hb1 hb2 pa pb t1 t2 hbw hb
          obtain ⟨r, hr⟩ : ∃ r, r = decide (l[k] = m[k]'(by rw [← HL.out]; exact hlt)) := ⟨_, rfl⟩
          have HC : Hid (∀ q, Calls Tryd.prog 23 #[u1, u2] (wr.drewN q) fun e w' => e = .returned (.bool r) ∧ ∃ m, w' = (wr.drewN q).drewN m) := fun q => by rw [hr]; exact sameTimers u1 u2 _ _ _ (t1' q) (t2' q)
          have HR : Hid _ := hr
          clear hr t1' t2'
          cases r
          · go_wp2_with fail
            go_quiet ((go_at_call 23; exact Calls.quiet_of (HC.out _)))
            go_wp2
            go_ret
            refine ⟨?_, (below_drewN (((Below.refl _ _).alloc (Nat.le_refl _) _).alloc (by simp) _ |>.trans (HA.out.2.mono (by omega))) _)⟩
            have h := HR.out.symm
            rw [HN.out, decide_eq_false (fun hh => of_decide_eq_false h (by obtain ⟨_, rfl⟩ := hh; rfl))]
            rfl
          · go_wp2_with fail
            go_quiet ((go_at_call 23; exact Calls.quiet_of (HC.out _)))
            go_wp2
            go_roundw
            case rel =>
              refine ⟨k + 1, by simp, hlt, fun j hj => ?_, below_drewN HA.out.2 _⟩
              rcases Nat.lt_succ_iff_lt_or_eq.1 hj with h | rfl
              · exact HA.out.1 j h
              · rw [List.getElem?_eq_getElem hlt, List.getElem?_eq_getElem (by rw [← HL.out]; exact hlt)]
                exact congrArg some (of_decide_eq_true HR.out.symm)
            case measure => simp [intOf]; omega
        · have HE : Hid (ans = true) := by
            rw [HN.out]
            refine decide_eq_true ⟨by first | rfl | trivial, List.ext_getElem? fun j => ?_⟩
            rcases Nat.lt_or_ge j k with h | h
            · exact HA.out.1 j h
            · rw [List.getElem?_eq_none (by omega), List.getElem?_eq_none (by rw [← HL.out]; omega)]
          clear pa pb hb
          go_wp2
          go_ret
          exact ⟨by rw [HE.out]; rfl, (((Below.refl _ _).alloc (Nat.le_refl _) _).alloc (by simp) _ |>.trans (HA.out.2.mono (by omega)))⟩
    · obtain ⟨ans, hans⟩ : ∃ ans, ans = decide (n1 = n2 ∧ l = m) := ⟨_, rfl⟩
      rw [← hans]
      have HN : Hid (ans = false) := by rw [hans]; exact decide_eq_false fun h => hlen (by rw [h.2])
      clear hans
      clear pa pb
      subst hn
      have hne : ((l.length : Int) != (m.length : Int)) = true := by simp [bne_iff_ne]; omega
      go_enter Tryd.func9, Tryd.ntmps9
      go_wp2
      go_ret
      exact ⟨by rw [HN.out]; rfl, (((Below.refl _ _).alloc (Nat.le_refl _) _).alloc (by simp) _)⟩
  · obtain ⟨ans, hans⟩ : ∃ ans, ans = decide (n1 = n2 ∧ l = m) := ⟨_, rfl⟩
    rw [← hans]
    have HN : Hid (ans = false) := by rw [hans]; exact decide_eq_false fun h => hn h.1
    clear hans
    clear pa pb
    have hne : (n1 != n2) = true := by simp [bne_iff_ne]; exact hn
    go_enter Tryd.func9, Tryd.ntmps9
    go_wp2
    go_ret
    exact ⟨by rw [HN.out]; rfl, (((Below.refl _ _).alloc (Nat.le_refl _) _).alloc (by simp) _)⟩
end Go.Proofs.YtdfjobghgbcjpaaDoor.Walks
