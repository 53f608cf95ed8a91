/-
  wheel, part 1: contracts of its functions, and what they lean on. Conditions: what is read can be read.
-/
import Derived.Test.YtlphohahijeimaaChecked
import Derived.Test.YtlphohahijeimaaRows
import Derived.WalkKit
import Derived.ProofKit
import Derived.Handy
import Derived.LoopTactic
import Derived.Below
import Derived.Laws.BitsAllLaws
import Derived.RegionTactic
import Derived.Deep.RegionHeld3
import Derived.Deep.DrawnRows
import Derived.Deep.AppendLies
import Derived.Laws.OwnMore
import Derived.Deep.Onto
import Derived.Deep.QuietTactic
import Derived.BigQuiet
namespace Go.Proofs.Ytlphohahijeimaa.Wh
open Go.RowKit
set_option linter.unusedVariables false
set_option linter.unusedSimpArgs false
attribute [local go_sem ↓] Go.wp_at_zero Go.wp_at_succ
section
abbrev Tm := Int × Int

def tcells : List Tm → List Value
  | [] => []
  | t :: l => .int .i64 t.1 :: .int .i64 t.2 :: tcells l

theorem tcells_len : ∀ l : List Tm, (tcells l).length = l.length * 2
  | [] => rfl
  | t :: l => by simp [tcells, tcells_len l]; omega

theorem tcells_append : ∀ l m : List Tm, tcells (l ++ m) = tcells l ++ tcells m
  | [], _ => rfl
  | t :: l, m => by simp [tcells, tcells_append l m]

theorem tcells_at : ∀ (l : List Tm) (i : Nat) (h : i < l.length), (tcells l)[i * 2]? = some (.int .i64 l[i].1) ∧ (tcells l)[i * 2 + 1]? = some (.int .i64 l[i].2)
  | t :: l, 0, _ => by simp [tcells]
  | t :: l, i + 1, h => by
    have h2 := tcells_at l i (by simpa using h)
    rw [show (i + 1) * 2 = i * 2 + 1 + 1 by omega]
    simpa [tcells] using h2

def RowAt (w : World) (v : Value) (n : Nat) (xs : List Value) : Prop :=
  ∃ a cap, v = .slice a n cap ∧ n ≤ cap ∧ cap ≤ maxLen ∧ (n = 0 ∧ xs = [] ∨ ∃ b off, a = some ⟨b, off, none⟩ ∧ b < w.heap.size ∧ ∀ i, i < xs.length → w.cell? ⟨b, off + i, none⟩ = xs[i]?)

theorem RowAt.below {w w' : World} {v : Value} {n : Nat} {xs : List Value} (h : RowAt w v n xs) (hb : Below w.heap.size w w') : RowAt w' v n xs := by
  obtain ⟨a, cap, hv, hc, hm, h1 | ⟨b, off, h1, h2, h3⟩⟩ := h
  · exact ⟨a, cap, hv, hc, hm, .inl h1⟩
  · exact ⟨a, cap, hv, hc, hm, .inr ⟨b, off, h1, Nat.lt_of_lt_of_le h2 hb.size, fun i hi => by rw [hb.cell (p := ⟨b, off + i, none⟩) h2]; exact h3 i hi⟩⟩

def TmAt (w : World) (v : Value) (l : List Tm) : Prop := RowAt w v l.length (tcells l)

theorem TmAt.below {w w' : World} {v : Value} {l : List Tm} (h : TmAt w v l) (hb : Below w.heap.size w w') : TmAt w' v l := RowAt.below h hb

theorem TmAt.parts {w : World} {v : Value} {l : List Tm} (h : TmAt w v l) :
    ∃ a cap, v = .slice a l.length cap ∧ l.length ≤ cap ∧ cap ≤ maxLen ∧ ∀ i (hi : i < l.length), ∃ b off, a = some ⟨b, off, none⟩ ∧ b < w.heap.size ∧ w.cell? ⟨b, off + i * 2, none⟩ = some (.int .i64 l[i].1) ∧ w.cell? ⟨b, off + i * 2 + 1, none⟩ = some (.int .i64 l[i].2) := by
  obtain ⟨a, cap, hv, hc, hm, h1 | ⟨b, off, h1, h2, h3⟩⟩ := h
  · exact ⟨a, cap, hv, hc, hm, fun i hi => absurd hi (by omega)⟩
  · refine ⟨a, cap, hv, hc, hm, fun i hi => ⟨b, off, h1, h2, ?_, ?_⟩⟩
    · rw [h3 (i * 2) (by rw [tcells_len]; omega)]; exact (tcells_at l i hi).1
    · rw [Nat.add_assoc, h3 (i * 2 + 1) (by rw [tcells_len]; omega)]; exact (tcells_at l i hi).2

theorem unlike_pair (a b c d : Int) : (a = c ∧ b = d) ∨ ((a == c) = false ∨ a = c ∧ (b == d) = false) := by
  simp only [beq_eq_false_iff_ne]
  by_cases h : a = c <;> by_cases h' : b = d <;> simp [h, h']

set_option maxHeartbeats 1000000 in
theorem sameTimers (u v : Value) (l m : List Tm) (w : World) (hu : TmAt w u l) (hv : TmAt w v m) :
    Calls Try.prog 41 #[u, v] w fun r w' => r = .returned (.bool (decide (l = m))) ∧ ∃ q, w' = w.drewN q := by
  obtain ⟨a, ca, rfl, hca, hma, pa⟩ := hu.parts
  obtain ⟨b, cb, rfl, hcb, hmb, pb⟩ := hv.parts
  unfold maxLen at hma hmb
  by_cases hlen : l.length = m.length
  · have HL : Hid (l.length = m.length) := hlen
    rw [← hlen] at hcb ⊢
    clear hlen
    go_enter Try.func41, Try.ntmps41
    go_wp2
    go_loopw [5] (fun i wr => ∃ k : Nat, i = .int .i64 k ∧ k ≤ l.length ∧ (∀ j, j < k → l[j]? = m[j]?) ∧ ∃ q, wr = w.drewN q) (fun i _ => l.length - (intOf i).toNat)
    case atStart => exact ⟨0, rfl, Nat.zero_le _, fun j hj => absurd hj (Nat.not_lt_zero _), 0, rfl⟩
    case round =>
      obtain ⟨k, rfl, hk, hall, q, rfl⟩ := hrel
      have HA : Hid _ := hall
      clear hall
      by_cases hlt : k < l.length
      · obtain ⟨b1, o1, rfl, hb1, c1, d1⟩ := pa k hlt
        obtain ⟨b2, o2, rfl, hb2, c2, d2⟩ := pb k (by rw [← HL.out]; exact hlt)
        clear hb1 hb2 pa pb
        obtain ⟨x1, hx1⟩ : ∃ x, x = l[k].1 := ⟨_, rfl⟩
        obtain ⟨y1, hy1⟩ : ∃ x, x = l[k].2 := ⟨_, rfl⟩
        obtain ⟨x2, hx2⟩ : ∃ x, x = (m[k]'(by rw [← HL.out]; exact hlt)).1 := ⟨_, rfl⟩
        obtain ⟨y2, hy2⟩ : ∃ x, x = (m[k]'(by rw [← HL.out]; exact hlt)).2 := ⟨_, rfl⟩
        rw [← hx1] at c1
        rw [← hy1] at d1
        rw [← hx2] at c2
        rw [← hy2] at d2
        have HX : Hid (_ ∧ _ ∧ _ ∧ _) := ⟨hx1, hy1, hx2, hy2⟩
        clear hx1 hy1 hx2 hy2
        rcases unlike_pair x1 y1 x2 y2 with ⟨rfl, rfl⟩ | hne
        · go_wp2
          go_region
          go_wp2
          go_roundw
          case rel =>
            refine ⟨k + 1, by simp, hlt, fun j hj => ?_, q + 1, rfl⟩
            rcases Nat.lt_succ_iff_lt_or_eq.1 hj with h | rfl
            · exact HA.out j h
            · rw [List.getElem?_eq_getElem hlt, List.getElem?_eq_getElem (by rw [← HL.out]; exact hlt)]
              obtain ⟨h1, h2, h3, h4⟩ := HX.out
              exact congrArg some (Prod.ext (h1.symm.trans h3) (h2.symm.trans h4))
          case measure => simp [intOf]; omega
        · have HN : Hid (decide (l = m) = false) := by
            refine decide_eq_false fun h => ?_
            subst h
            obtain ⟨h1, h2, h3, h4⟩ := HX.out
            rcases hne with hne | ⟨_, hne⟩
            · rw [h1, ← h3] at hne; simp at hne
            · rw [h2, ← h4] at hne; simp at hne
          rcases hne with hne | ⟨rfl, hne⟩
          all_goals
            go_wp2
            go_region
            go_wp2
            go_ret
            exact ⟨by rw [HN.out]; rfl, q + 1, rfl⟩
      · have HE : Hid (decide (l = m) = true) := by
          refine decide_eq_true (List.ext_getElem? fun j => ?_)
          rcases Nat.lt_or_ge j k with h | h
          · exact HA.out j h
          · rw [List.getElem?_eq_none (by omega), List.getElem?_eq_none (by rw [← HL.out]; omega)]
        clear pa pb
        go_wp2
        go_ret
        exact ⟨by rw [HE.out]; rfl, q, rfl⟩
  · have HN : Hid (decide (l = m) = false) := decide_eq_false fun h => hlen (by rw [h])
    clear pa pb
    have hne : ((l.length : Int) != (m.length : Int)) = true := by simp [bne_iff_ne]; omega
    go_enter Try.func41, Try.ntmps41
    go_wp2
    go_ret
    exact ⟨by rw [HN.out]; rfl, 0, rfl⟩

def Each {α β : Type} (R : α → β → Prop) (l : List α) (m : List β) : Prop := l.length = m.length ∧ ∀ i (h1 : i < l.length) (h2 : i < m.length), R l[i] m[i]

def LsAt (w : World) (v : Value) (ls : List (List Tm)) : Prop := ∃ vs, RowAt w v ls.length vs ∧ Each (TmAt w) vs ls

theorem Each.mono {α β : Type} {R S : α → β → Prop} (hRS : ∀ a b, R a b → S a b) {l : List α} {m : List β} (h : Each R l m) : Each S l m := ⟨h.1, fun i h1 h2 => hRS _ _ (h.2 i h1 h2)⟩

theorem LsAt.below {w w' : World} {v : Value} {ls : List (List Tm)} (h : LsAt w v ls) (hb : Below w.heap.size w w') : LsAt w' v ls := by
  obtain ⟨vs, h1, h2⟩ := h
  exact ⟨vs, h1.below hb, h2.mono (fun _ _ h => h.below hb)⟩

theorem LsAt.parts {w : World} {v : Value} {ls : List (List Tm)} (h : LsAt w v ls) :
    ∃ a cap, v = .slice a ls.length cap ∧ ls.length ≤ cap ∧ cap ≤ maxLen ∧ ∀ i (hi : i < ls.length), ∃ b off u, a = some ⟨b, off, none⟩ ∧ b < w.heap.size ∧ w.cell? ⟨b, off + i, none⟩ = some u ∧ TmAt w u ls[i] := by
  obtain ⟨vs, ⟨a, cap, hv, hc, hm, h1⟩, h2⟩ := h
  have hl := h2.1
  refine ⟨a, cap, hv, hc, hm, fun i hi => ?_⟩
  obtain ⟨h0, _⟩ | ⟨b, off, ha, hb, hcell⟩ := h1
  · omega
  · exact ⟨b, off, vs[i]'(by omega), ha, hb, by rw [hcell i (by omega)]; exact List.getElem?_eq_getElem _, h2.2 i (by omega) hi⟩

def WhAt (w : World) (x : Value) (now : Int) (ls : List (List Tm)) : Prop := ∃ v, x = .agg #[.int .i64 now, v] ∧ LsAt w v ls

theorem WhAt.below {w w' : World} {x : Value} {now : Int} {ls : List (List Tm)} (h : WhAt w x now ls) (hb : Below w.heap.size w w') : WhAt w' x now ls := by
  obtain ⟨v, h1, h2⟩ := h
  exact ⟨v, h1, h2.below hb⟩

theorem below_drewN {B : Nat} {a w : World} (h : Below B a w) (n : Nat) : Below B a (w.drewN n) := h.trans ⟨rfl, rfl, rfl, Nat.le_refl _, fun _ _ => rfl⟩

set_option maxHeartbeats 1000000 in
theorem sameWheel (x y : Value) (n1 n2 : Int) (l m : List (List Tm)) (w : World) (hx : WhAt w x n1 l) (hy : WhAt w y n2 m) :
    Calls Try.prog 27 #[x, y] w fun r w' => r = .returned (.bool (decide (n1 = n2 ∧ l = m))) ∧ Below w.heap.size w w' := by
  obtain ⟨u, rfl, hu⟩ := hx
  obtain ⟨v, rfl, hv⟩ := hy
  obtain ⟨a, ca, rfl, hca, hma, pa⟩ := hu.parts
  obtain ⟨b, cb, rfl, hcb, hmb, pb⟩ := hv.parts
  unfold maxLen at hma hmb
  by_cases hn : n1 = n2
  · by_cases hlen : l.length = m.length
    · have HL : Hid (l.length = m.length) := hlen
      rw [← hlen] at hcb ⊢
      subst hn
      obtain ⟨ans, hans⟩ : ∃ ans, ans = decide (n1 = n1 ∧ l = m) := ⟨_, rfl⟩
      have HN : Hid _ := hans
      rw [← hans]
      clear hans hlen
      go_enter Try.func27, Try.ntmps27
      go_wp2
      go_loopw [5] (fun i wr => ∃ k : Nat, i = .int .i64 k ∧ k ≤ l.length ∧ (∀ j, j < k → l[j]? = m[j]?) ∧ Below (w.heap.size + 2) ((w.alloc (.cells #[.int .i64 n1, .slice a l.length ca] 47)).alloc (.cells #[.int .i64 n1, .slice b l.length cb] 47)) wr) (fun i _ => l.length - (intOf i).toNat)
      case atStart => exact ⟨0, rfl, Nat.zero_le _, fun j hj => absurd hj (Nat.not_lt_zero _), Below.refl _ _⟩
      case round =>
        obtain ⟨k, rfl, hk, hall, hb⟩ := hrel
        have HA : Hid (_ ∧ _) := ⟨hall, hb⟩
        clear hall
        have f1 : wr.cell? ⟨w.heap.size, 1, none⟩ = some (.slice a l.length ca) := by rw [hb.cell (p := ⟨w.heap.size, 1, none⟩) (by simp)]; simp
        have f2 : wr.cell? ⟨w.heap.size + 1, 1, none⟩ = some (.slice b l.length cb) := by rw [hb.cell (p := ⟨w.heap.size + 1, 1, none⟩) (by simp)]; simp
        have hbw : Below w.heap.size w wr := (((Below.refl _ _).alloc (Nat.le_refl _) _).alloc (by simp) _).trans (hb.mono (by omega))
        by_cases hlt : k < l.length
        · obtain ⟨b1, o1, u1, rfl, hb1, c1, t1⟩ := pa k hlt
          obtain ⟨b2, o2, u2, rfl, hb2, c2, t2⟩ := pb k (by rw [← HL.out]; exact hlt)
          have e1 := (hbw.cell (p := ⟨b1, o1 + k, none⟩) hb1).trans c1
          have e2 := (hbw.cell (p := ⟨b2, o2 + k, none⟩) hb2).trans c2
          have t1' := fun q => (t1.below hbw).below (below_drewN (Below.refl _ wr) q)
          have t2' := fun q => (t2.below hbw).below (below_drewN (Below.refl _ wr) q)
          clear c1 c2 hb1 hb2 pa pb t1 t2 hbw hb
          obtain ⟨r, hr⟩ : ∃ r, r = decide (l[k] = m[k]'(by rw [← HL.out]; exact hlt)) := ⟨_, rfl⟩
          have HC : Hid (∀ q, Calls Try.prog 41 #[u1, u2] (wr.drewN q) fun e w' => e = .returned (.bool r) ∧ ∃ m, w' = (wr.drewN q).drewN m) := fun q => by rw [hr]; exact sameTimers u1 u2 _ _ _ (t1' q) (t2' q)
          have HR : Hid _ := hr
          clear hr t1' t2'
          cases r
          · go_wp2_with fail
            go_quiet ((go_at_call 41; exact Calls.quiet_of (HC.out _)))
            go_wp2
            go_ret
            refine ⟨?_, (below_drewN (((Below.refl _ _).alloc (Nat.le_refl _) _).alloc (by simp) _ |>.trans (HA.out.2.mono (by omega))) _)⟩
            have h := HR.out.symm
            rw [HN.out, decide_eq_false (fun hh => of_decide_eq_false h (by obtain ⟨_, rfl⟩ := hh; rfl))]
            rfl
          · go_wp2_with fail
            go_quiet ((go_at_call 41; exact Calls.quiet_of (HC.out _)))
            go_wp2
            go_roundw
            case rel =>
              refine ⟨k + 1, by simp, hlt, fun j hj => ?_, below_drewN HA.out.2 _⟩
              rcases Nat.lt_succ_iff_lt_or_eq.1 hj with h | rfl
              · exact HA.out.1 j h
              · rw [List.getElem?_eq_getElem hlt, List.getElem?_eq_getElem (by rw [← HL.out]; exact hlt)]
                exact congrArg some (of_decide_eq_true HR.out.symm)
            case measure => simp [intOf]; omega
        · have HE : Hid (ans = true) := by
            rw [HN.out]
            refine decide_eq_true ⟨by first | rfl | trivial, List.ext_getElem? fun j => ?_⟩
            rcases Nat.lt_or_ge j k with h | h
            · exact HA.out.1 j h
            · rw [List.getElem?_eq_none (by omega), List.getElem?_eq_none (by rw [← HL.out]; omega)]
          clear pa pb hb
          go_wp2
          go_ret
          exact ⟨by rw [HE.out]; rfl, (((Below.refl _ _).alloc (Nat.le_refl _) _).alloc (by simp) _ |>.trans (HA.out.2.mono (by omega)))⟩
    · obtain ⟨ans, hans⟩ : ∃ ans, ans = decide (n1 = n2 ∧ l = m) := ⟨_, rfl⟩
      rw [← hans]
      have HN : Hid (ans = false) := by rw [hans]; exact decide_eq_false fun h => hlen (by rw [h.2])
      clear hans
      clear pa pb
      subst hn
      have hne : ((l.length : Int) != (m.length : Int)) = true := by simp [bne_iff_ne]; omega
      go_enter Try.func27, Try.ntmps27
      go_wp2
      go_ret
      exact ⟨by rw [HN.out]; rfl, (((Below.refl _ _).alloc (Nat.le_refl _) _).alloc (by simp) _)⟩
  · obtain ⟨ans, hans⟩ : ∃ ans, ans = decide (n1 = n2 ∧ l = m) := ⟨_, rfl⟩
    rw [← hans]
    have HN : Hid (ans = false) := by rw [hans]; exact decide_eq_false fun h => hn h.1
    clear hans
    clear pa pb
    have hne : (n1 != n2) = true := by simp [bne_iff_ne]; exact hn
    go_enter Try.func27, Try.ntmps27
    go_wp2
    go_ret
    exact ⟨by rw [HN.out]; rfl, (((Below.refl _ _).alloc (Nat.le_refl _) _).alloc (by simp) _)⟩

end

section
def placeOf (at' now : Int) : Int :=
  if at' / 8 = now / 8 then at' % 8 else if at' / 64 = now / 64 then 8 + at' / 8 % 8 else if at' / 512 = now / 512 then 16 + at' / 64 % 8 else 24

def ahead (a b : Tm) : Bool := decide (a.1 < b.1) || (decide (a.1 = b.1) && decide (a.2 < b.2))

set_option maxHeartbeats 1000000 in
theorem isTick_any (n : Int) (w : World) : Calls Try.prog 36 #[.int .i64 n] w fun r w' => r = .returned (.bool (decide (0 ≤ n ∧ n ≤ 1099511627776))) ∧ w' = w := by
  obtain ⟨ans, hans⟩ : ∃ ans, ans = decide (0 ≤ n ∧ n ≤ 1099511627776) := ⟨_, rfl⟩
  rw [← hans]
  have H : Hid _ := hans
  clear hans
  cases h1 : decide (0 ≤ n)
  · go_enter Try.func36, Try.ntmps36
    go_wp2
    go_ret
    exact ⟨by rw [H.out, decide_eq_false (fun h => of_decide_eq_false h1 h.1)]; rfl, rfl⟩
  · cases h2 : decide (n ≤ 1099511627776)
    · go_enter Try.func36, Try.ntmps36
      go_wp2
      go_ret
      exact ⟨by rw [H.out, decide_eq_false (fun h => of_decide_eq_false h2 h.2)]; rfl, rfl⟩
    · go_enter Try.func36, Try.ntmps36
      go_wp2
      go_ret
      exact ⟨by rw [H.out, decide_eq_true ⟨of_decide_eq_true h1, of_decide_eq_true h2⟩]; rfl, rfl⟩

set_option maxHeartbeats 1000000 in
theorem placeOf_any (x n : Int) (w : World) (hx : 0 ≤ x) (hx2 : x ≤ 4398046511104) (hn : 0 ≤ n) (hn2 : n ≤ 4398046511104) :
    Calls Try.prog 38 #[.int .i64 x, .int .i64 n] w fun r w' => r = .returned (.int .i64 (placeOf x n)) ∧ w' = w := by
  have a1 : x.tdiv 8 = x / 8 := Int.tdiv_eq_ediv_of_nonneg hx
  have a2 : x.tdiv 64 = x / 64 := Int.tdiv_eq_ediv_of_nonneg hx
  have a3 : x.tdiv 512 = x / 512 := Int.tdiv_eq_ediv_of_nonneg hx
  have a4 : n.tdiv 8 = n / 8 := Int.tdiv_eq_ediv_of_nonneg hn
  have a5 : n.tdiv 64 = n / 64 := Int.tdiv_eq_ediv_of_nonneg hn
  have a6 : n.tdiv 512 = n / 512 := Int.tdiv_eq_ediv_of_nonneg hn
  have a7 : x.tmod 8 = x % 8 := Int.tmod_eq_emod_of_nonneg hx
  have a8 : (x / 8).tmod 8 = x / 8 % 8 := Int.tmod_eq_emod_of_nonneg (by omega)
  have a9 : (x / 64).tmod 8 = x / 64 % 8 := Int.tmod_eq_emod_of_nonneg (by omega)
  unfold placeOf
  by_cases h1 : x / 8 = n / 8
  · rw [if_pos h1]
    go_enter Try.func38, Try.ntmps38
    go_wp2
    go_ret
    exact ⟨rfl, rfl⟩
  · rw [if_neg h1]
    by_cases h2 : x / 64 = n / 64
    · rw [if_pos h2]
      go_enter Try.func38, Try.ntmps38
      go_wp2
      go_ret
      exact ⟨rfl, rfl⟩
    · rw [if_neg h2]
      by_cases h3 : x / 512 = n / 512
      · rw [if_pos h3]
        go_enter Try.func38, Try.ntmps38
        go_wp2
        go_ret
        exact ⟨rfl, rfl⟩
      · rw [if_neg h3]
        go_enter Try.func38, Try.ntmps38
        go_wp2
        go_ret
        exact ⟨rfl, rfl⟩

set_option maxHeartbeats 1000000 in
theorem ahead_any (a b c d : Int) (w : World) :
    Calls Try.prog 39 #[.agg #[.int .i64 a, .int .i64 b], .agg #[.int .i64 c, .int .i64 d]] w fun r w' => r = .returned (.bool (ahead (a, b) (c, d))) ∧ w' = (w.alloc (.cells #[.int .i64 a, .int .i64 b] 91)).alloc (.cells #[.int .i64 c, .int .i64 d] 91) := by
  unfold ahead
  cases h1 : decide (a < c)
  · cases h2 : decide (a = c)
    · have h3 : (a == c) = false := by simpa using h2
      go_enter Try.func39, Try.ntmps39
      go_wp2
      go_ret
      exact ⟨rfl, rfl⟩
    · obtain rfl : a = c := of_decide_eq_true h2
      cases h4 : decide (b < d)
      all_goals
        go_enter Try.func39, Try.ntmps39
        go_wp2
        go_ret
        exact ⟨rfl, rfl⟩
  · go_enter Try.func39, Try.ntmps39
    go_wp2
    go_ret
    exact ⟨rfl, rfl⟩

end

section
theorem own_block {w w' : World} {base : Nat} {e : TypeId} {k : Nat} {v : Value} {n : Nat} {xs : List Value} (h : w.ownsRow base e k v n xs) (hs : ∀ g, v.ownBlock = some g → w'.heap[g]? = w.heap[g]?) : w'.ownsRow base e k v n xs := by
  refine ⟨h.1, ?_⟩
  rcases h.2 with hn | ⟨g, cap, cur, rfl, hb, hgg, rest⟩
  · exact .inl hn
  · exact .inr ⟨g, cap, cur, rfl, hb, by rw [hs g rfl]; exact hgg, rest⟩

theorem infoTm : (Try.prog.info? 91).map (fun i => (i.zero, i.size, i.bytes)) = some (some (.agg #[.int .i64 0, .int .i64 0]), 2, 16) := by kernel_rfl

theorem infoTms : (Try.prog.info? 89).map (fun i => (i.zero, i.size, i.bytes)) = some (some (.slice none 0 0), 1, 24) := by kernel_rfl

theorem news_at (w : World) (cs : List Value) (T : TypeId) : ∀ j u, cs[j]? = some u → (w.alloc (.cells cs.toArray T)).cell? ((⟨w.heap.size, 0, none⟩ : Addr).add j) = some u := by
  intro j u hu
  have hadd : (⟨w.heap.size, 0, none⟩ : Addr).add j = ⟨w.heap.size, j, none⟩ := by unfold Addr.add; split <;> simp_all
  rw [hadd, cell_of_row _ w.heap.size j cs.toArray T (0, 0) (heap_alloc_new w _)]
  simpa using hu

theorem heap_old (w : World) (o : Obj) {k : Nat} {x : Obj} (h : w.heap[k]? = some x) : (w.alloc o).heap[k]? = some x := by
  rw [Below.heap_alloc _ _ _ (Array.getElem?_eq_some_iff.1 h).1]; exact h

theorem heap_second (w : World) (o p : Obj) : ((w.alloc o).alloc p).heap[w.heap.size + 1]? = some p := by
  have := heap_alloc_new (w.alloc o) p
  simpa using this

theorem below_of_drew {W a : World} (h : Below W.drew.heap.size W.drew a) : Below W.heap.size W a := ⟨h.os, h.tape, h.output, h.size, h.block⟩

theorem ahead_b (a b c d : Int) (w : World) :
    Calls Try.prog 39 #[.agg #[.int .i64 a, .int .i64 b], .agg #[.int .i64 c, .int .i64 d]] w fun r w' => r = .returned (.bool (ahead (a, b) (c, d))) ∧ Below w.heap.size w w' :=
  (ahead_any a b c d w).mono fun r w' h => ⟨h.1, by rw [h.2]; exact ((Below.refl _ _).alloc (Nat.le_refl _) _).alloc (by simp) _⟩

theorem held4 {w w' : World} {g : Nat} {i1 i2 i3 i4 : Nat} {v1 v2 v3 v4 : Value} (hg : g < w.heap.size) (h1 : w.cell? ⟨g, i1, none⟩ = some v1) (h2 : w.cell? ⟨g, i2, none⟩ = some v2) (h3 : w.cell? ⟨g, i3, none⟩ = some v3) (h4 : w.cell? ⟨g, i4, none⟩ = some v4)
    (hb : Below w.heap.size w w') : w'.cell? ⟨g, i1, none⟩ = some v1 ∧ w'.cell? ⟨g, i2, none⟩ = some v2 ∧ w'.cell? ⟨g, i3, none⟩ = some v3 ∧ w'.cell? ⟨g, i4, none⟩ = some v4 ∧ Below w.heap.size w w' :=
  ⟨(hb.cell (p := ⟨g, i1, none⟩) hg).trans h1, (hb.cell (p := ⟨g, i2, none⟩) hg).trans h2, (hb.cell (p := ⟨g, i3, none⟩) hg).trans h3, (hb.cell (p := ⟨g, i4, none⟩) hg).trans h4, hb⟩

theorem own_form {w : World} {base : Nat} {e : TypeId} {k : Nat} {v : Value} {n : Nat} {xs : List Value} (h : w.ownsRow base e k v n xs) : ∃ p c, v = .slice p n c := by
  rcases h.2 with ⟨rfl, rfl⟩ | ⟨g, cap, cur, rfl, _⟩
  · exact ⟨_, _, rfl⟩
  · exact ⟨_, _, rfl⟩

def Apart (a b : Value) : Prop := ∀ g, a.ownBlock = some g → b.ownBlock ≠ some g

structure OwnLs (w : World) (base : Nat) (v : Value) (vs : List Value) (ls : List (List Tm)) : Prop where
  row : w.ownsRow base 89 1 v ls.length vs
  each : Each (fun u l => w.ownsRow base 91 2 u l.length (tcells l)) vs ls
  apart : (v :: vs).Pairwise Apart

theorem OwnLs.keep {w w' : World} {base : Nat} {v : Value} {vs : List Value} {ls : List (List Tm)} (h : OwnLs w base v vs ls) (hk : ∀ g, base ≤ g → g < w.heap.size → w'.heap[g]? = w.heap[g]?) : OwnLs w' base v vs ls :=
  ⟨own_block h.row fun g hg => hk g (h.row.lt g hg).1 (h.row.lt g hg).2, h.each.mono fun u l hu => own_block hu fun g hg => hk g (hu.lt g hg).1 (hu.lt g hg).2, h.apart⟩

theorem OwnLs.below {w w' : World} {base : Nat} {v : Value} {vs : List Value} {ls : List (List Tm)} (h : OwnLs w base v vs ls) (hb : Below w.heap.size w w') : OwnLs w' base v vs ls :=
  h.keep fun g _ hg => hb.block g hg

theorem OwnLs.mono {w : World} {base b : Nat} {v : Value} {vs : List Value} {ls : List (List Tm)} (h : OwnLs w base v vs ls) (hb : b ≤ base) : OwnLs w b v vs ls :=
  ⟨h.row.mono hb, h.each.mono fun u l hu => hu.mono hb, h.apart⟩

theorem OwnLs.nil (w : World) (base : Nat) : OwnLs w base (.slice none 0 0) [] [] :=
  ⟨World.ownsRow_nil w base _ _, ⟨rfl, fun i h1 => absurd h1 (Nat.not_lt_zero _)⟩, by simp⟩

theorem OwnLs.push {w w1 w2 : World} {base : Nat} {v u v' : Value} {vs : List Value} {ls : List (List Tm)} {l : List Tm} {g : Nat} (h : OwnLs w base v vs ls) (hbase : base ≤ w.heap.size) (hb : Below w.heap.size w w1)
    (hu : w1.ownsRow w.heap.size 91 2 u l.length (tcells l)) (hrow : w2.ownsRow base 89 1 v' (ls.length + 1) (vs ++ [u])) (hg : w1.grownBy w2 v.ownBlock)
    (hv' : v'.ownBlock = some g) (hlies : v.ownBlock = some g ∨ g = w1.heap.size) : OwnLs w2 base v' (vs ++ [u]) (ls ++ [l]) := by
  have hlen : vs.length = ls.length := h.each.1
  have hnot : ∀ x ∈ vs, Apart v x := (List.pairwise_cons.1 h.apart).1
  have hsz := hb.size
  have hvlt : ∀ k, v.ownBlock = some k → k < w.heap.size := fun k hk => (h.row.lt k hk).2
  have hold : ∀ i (h1 : i < vs.length) k, vs[i].ownBlock = some k → base ≤ k ∧ k < w.heap.size := fun i h1 k hk => (h.each.2 i h1 (by omega)).lt k hk
  have keep : ∀ i (h1 : i < vs.length) k, vs[i].ownBlock = some k → w2.heap[k]? = w.heap[k]? := fun i h1 k hk => by
    have hk2 := (hold i h1 k hk).2
    rw [hg.block k (by omega) (fun e => hnot vs[i] (List.getElem_mem h1) k e.symm hk)]
    exact hb.block k hk2
  refine ⟨by simpa using hrow, ⟨by simp [hlen], fun i h1 h2 => ?_⟩, ?_⟩
  · by_cases hi : i < vs.length
    · rw [List.getElem_append_left hi, List.getElem_append_left (by omega)]
      exact own_block (h.each.2 i hi (by omega)) (keep i hi)
    · have : i = vs.length := by simp at h1; omega
      subst this
      simp only [List.getElem_append_right (Nat.le_refl _), Nat.sub_self, List.getElem_cons_zero]
      rw [List.getElem_append_right (by omega)]
      simp only [hlen, Nat.sub_self, List.getElem_cons_zero]
      refine own_block (hu.mono hbase) fun k hk => ?_
      refine hg.block k (hu.lt k hk).2 (fun e => ?_)
      have := hvlt k e.symm
      have := (hu.lt k hk).1
      omega
  · have hgu : u.ownBlock ≠ some g := fun e => by
      have h1 := (hu.lt g e).1
      have h2 := (hu.lt g e).2
      rcases hlies with h3 | h3
      · have := hvlt g h3; omega
      · omega
    have hall : ∀ x ∈ vs, x.ownBlock ≠ some g ∧ Apart x u := fun x hx => by
      obtain ⟨i, hi, rfl⟩ := List.getElem_of_mem hx
      refine ⟨fun e => ?_, fun k hk e => ?_⟩
      · have h1 := hold i hi g e
        rcases hlies with h3 | h3
        · exact hnot _ hx g h3 e
        · omega
      · have h1 := hold i hi k hk
        have h2 := (hu.lt k e).1
        omega
    refine List.pairwise_cons.2 ⟨fun x hx k hk e => ?_, List.pairwise_append.2 ⟨(List.pairwise_cons.1 h.apart).2, by simp, fun x hx y hy => ?_⟩⟩
    · obtain rfl : g = k := by rw [hv'] at hk; exact Option.some.inj hk
      rcases List.mem_append.1 hx with h1 | h1
      · exact (hall x h1).1 e
      · obtain rfl := List.mem_singleton.1 h1
        exact hgu e
    · obtain rfl := List.mem_singleton.1 hy
      exact (hall x hx).2

theorem tcells_set : ∀ (l : List Tm) (j : Nat) (t : Tm), ((tcells l).set (j * 2) (.int .i64 t.1)).set (j * 2 + 1) (.int .i64 t.2) = tcells (l.set j t)
  | [], j, t => by simp [tcells]
  | x :: l, 0, t => by simp [tcells]
  | x :: l, j + 1, t => by
    have := tcells_set l j t
    rw [show (j + 1) * 2 = j * 2 + 1 + 1 by omega]
    simp [tcells, this]

theorem tcells_one (l : List Tm) : ∀ u ∈ tcells l, u.oneCell' = true := by
  induction l with
  | nil => simp [tcells]
  | cons t l ih => simp only [tcells, List.mem_cons]; rintro u (rfl | rfl | h); · rfl
                   · rfl
                   · exact ih u h

end

section
def spot (t : Tm) (x : List Tm) : Nat → Nat
  | 0 => 0
  | j + 1 => if ahead t (x.getD j (0, 0)) then spot t x j else j + 1

def insAt (x : List Tm) (t : Tm) (j : Nat) : List Tm := x.take j ++ t :: x.drop j

def ins (x : List Tm) (t : Tm) : List Tm := insAt x t (spot t x x.length)

def gatherF (now i : Int) (x : List Tm) (t : Tm) : List Tm := if placeOf t.1 now = i then ins x t else x

def gather (now i : Int) (l : List Tm) : List Tm := l.foldl (gatherF now i) []

def wheelTo (now : Int) (l : List Tm) (k : Nat) : List (List Tm) := (List.range k).map fun (i : Nat) => gather now (i : Int) l

def wheelOf (now : Int) (l : List Tm) : List (List Tm) := wheelTo now l 25

theorem insAt_len (x : List Tm) (t : Tm) (j : Nat) : (insAt x t j).length = x.length + 1 := by
  simp only [insAt, List.length_append, List.length_cons, List.length_take, List.length_drop]; omega

theorem ins_len (x : List Tm) (t : Tm) : (ins x t).length = x.length + 1 := insAt_len _ _ _

theorem gather_snoc (now i : Int) (l : List Tm) (t : Tm) : gather now i (l ++ [t]) = gatherF now i (gather now i l) t := by simp [gather]

theorem gather_len (now i : Int) (l : List Tm) : (gather now i l).length ≤ l.length := by
  have h : ∀ (m : List Tm) (x : List Tm), (m.foldl (gatherF now i) x).length ≤ x.length + m.length := by
    intro m
    induction m with
    | nil => intro x; simp
    | cons t m ih =>
      intro x
      have h1 : (gatherF now i x t).length ≤ x.length + 1 := by
        unfold gatherF
        split
        · rw [ins_len]; exact Nat.le_refl _
        · omega
      have := ih (gatherF now i x t)
      simp only [List.foldl_cons, List.length_cons]
      omega
  simpa [gather] using h l []

theorem insAt_step (x : List Tm) (t : Tm) (j : Nat) (hj : j < x.length) : ((insAt x t (j + 1)).set (j + 1) x[j]).set j t = insAt x t j := by
  apply List.ext_getElem?
  intro i
  simp only [insAt, List.getElem?_set, List.length_set, List.length_append, List.length_cons, List.length_take, List.length_drop, List.getElem?_append]
  rcases Nat.lt_trichotomy i j with h | h | h
  · rw [if_neg (by omega), if_neg (by omega), if_pos (by omega), if_pos (by omega), List.getElem?_take_of_lt (by omega), List.getElem?_take_of_lt h]
  · subst h
    rw [if_pos rfl, if_pos (by omega), if_neg (by omega), show i - min i x.length = 0 by omega]
    rfl
  · by_cases h2 : i = j + 1
    · subst h2
      rw [if_neg (by omega), if_pos rfl, if_pos (by omega), if_neg (by omega), show j + 1 - min j x.length = 1 by omega]
      simp [List.getElem?_drop, List.getElem?_eq_getElem hj]
    · rw [if_neg (by omega), if_neg (by omega), if_neg (by omega), if_neg (by omega), show min (j + 1) x.length = j + 1 by omega, show min j x.length = j by omega, show i - j = (i - (j + 1)) + 1 by omega]
      obtain ⟨m, rfl⟩ : ∃ m, i = j + 2 + m := ⟨i - (j + 2), by omega⟩
      rw [show j + 2 + m - (j + 1) = m + 1 by omega]
      simp only [List.getElem?_cons_succ, List.getElem?_drop]
      congr 1
      omega

theorem insAt_get (x : List Tm) (t : Tm) (j : Nat) (hj : j ≤ x.length) : (insAt x t j)[j]? = some t := by
  simp only [insAt, List.getElem?_append, List.length_take]
  rw [if_neg (by omega), show j - min j x.length = 0 by omega]; rfl

theorem insAt_before (x : List Tm) (t : Tm) (j : Nat) (hj : j < x.length) : (insAt x t (j + 1))[j]? = some x[j] := by
  simp only [insAt, List.getElem?_append, List.length_take]
  rw [if_pos (by omega), List.getElem?_take_of_lt (by omega), List.getElem?_eq_getElem hj]

theorem insAt_end (x : List Tm) (t : Tm) : insAt x t x.length = x ++ [t] := by simp [insAt]

set_option maxHeartbeats 4000000 in
set_option maxRecDepth 100000 in
theorem wheelOf_any (now : Int) (v : Value) (l : List Tm) (w : World) (hv : TmAt w v l) (hn : 0 ≤ now) (hn2 : now ≤ 4398046511104) (hl : ∀ t ∈ l, 0 ≤ t.1 ∧ t.1 ≤ 4398046511104) (hlen : l.length ≤ 1048577) :
    Calls Try.prog 22 #[.int .i64 now, v] w fun r w' => ∃ x vs, r = .returned (.agg #[.int .i64 now, x]) ∧ OwnLs w' w.heap.size x vs (wheelOf now l) ∧ Below w.heap.size w w' := by
  obtain ⟨a, ca, rfl, hca, hma, pa⟩ := hv.parts
  unfold maxLen at hma
  obtain ⟨i0, hi, hz0, hz1, hz2⟩ := info_parts infoTm
  obtain ⟨i1, hj, hy0, hy1, hy2⟩ := info_parts infoTms
  go_enter Try.func22, Try.ntmps22
  go_wp2
  go_loopw [6] (fun i wr => ∃ (k : Nat) (v : Value) (vs : List Value), i = .int .i64 k ∧ k ≤ 25 ∧ wr.heap[w.heap.size]? = some (.cells #[.int .i64 0, .slice none 0 0] 47 (0, 0)) ∧ wr.heap[w.heap.size + 1]? = some (.cells #[.int .i64 now, v] 47 (0, 0)) ∧ OwnLs wr (w.heap.size + 2) v vs (wheelTo now l k) ∧ Below w.heap.size w wr ∧ w.heap.size + 2 ≤ wr.heap.size) (fun i _ => 25 - (intOf i).toNat)
  case atStart =>
    refine ⟨0, .slice none 0 0, [], rfl, by omega, ?_, ?_, OwnLs.nil _ _, ?_, ?_⟩
    · exact heap_old _ _ (heap_alloc_new _ _)
    · exact heap_second _ _ _
    · exact ((Below.refl _ _).alloc (Nat.le_refl _) _).alloc (by simp) _
    · simp
  case round =>
    obtain ⟨k, x, vs, rfl, hk, h1, h2, hown, hb, hsz⟩ := hrel
    obtain ⟨w0, hw0⟩ : ∃ w0, w0 = wr := ⟨_, rfl⟩
    subst hw0
    have c1 : w0.cell? ⟨w.heap.size + 1, 1, none⟩ = some x := by simp [World.cell?, h2]
    have HH : Hid (_ ∧ _ ∧ _ ∧ _ ∧ _) := ⟨h1, h2, hown, hb, hl⟩
    clear h1 h2 hown hl
    by_cases hlt : k < 25
    · have hkd : decide ((k : Int) < 25) = true := decide_eq_true (by omega)
      go_wp2
      go_loopw [7, 8] (fun y i wr => ∃ (q : Nat), i = .int .i64 q ∧ q ≤ l.length ∧ wr.ownsRow w0.heap.size 91 2 y (gather now k (l.take q)).length (tcells (gather now k (l.take q))) ∧ Below w0.heap.size w0 wr) (fun _ i _ => l.length - (intOf i).toNat)
      case atStart => exact ⟨0, rfl, Nat.zero_le _, World.ownsRow_nil _ _ _ _, Below.refl _ _⟩
      case round =>
        obtain ⟨q, rfl, hq, ho, hb2⟩ := hrel
        by_cases hq2 : q < l.length
        · obtain ⟨b0, off, rfl, hbl, p1, p2⟩ := pa q hq2
          have hb3 : Below w.heap.size w wr := hb.trans (hb2.mono hb.size)
          have e1 := (hb3.cell (p := ⟨b0, off + q * 2, none⟩) hbl).trans p1
          have e2 := (hb3.cell (p := ⟨b0, off + q * 2 + 1, none⟩) hbl).trans p2
          have hlq := HH.out.2.2.2.2 l[q] (List.getElem_mem hq2)
          have hgs := gather_snoc now k (l.take q) l[q]
          rw [← List.take_succ_eq_append_getElem hq2] at hgs
          have hgl := gather_len now k (l.take q)
          rw [List.length_take] at hgl
          obtain ⟨ta, hta⟩ : ∃ ta, l[q].1 = ta := ⟨_, rfl⟩
          obtain ⟨td, htd⟩ : ∃ td, l[q].2 = td := ⟨_, rfl⟩
          have hlq' : l[q] = (ta, td) := Prod.ext hta htd
          rw [hta] at e1 hlq
          rw [htd] at e2
          rw [hlq'] at hgs
          obtain ⟨g, hg⟩ : ∃ g, gather now k (l.take q) = g := ⟨_, rfl⟩
          rw [hg] at ho hgs hgl
          unfold gatherF at hgs
          have HG : Hid (_ ∧ _ ∧ _) := ⟨hgs, hb2, hb3⟩
          clear hta htd hlq' hg hgs p1 p2 pa hb2 hb3
          cases hpl : (placeOf ta now != (k : Int))
          · go_wp2_with (first | (go_at_call 38; refine (placeOf_any _ _ _ hlq.1 hlq.2 hn hn2).mono ?_; rintro r w1 ⟨rfl, rfl⟩) | (at_builtin; refine wpList_append_lies _ rfl _ _ 89 rfl w0.heap.size 91 i0 _ 2 16 Try.underlying89 hi hz0 hz1 hz2 rfl (by decide) u7 _ _ rfl (ho.alloc _) _ 1 1 (tcells [(ta, td)]) rfl rfl (news_at _ _ _) (tcells_one _) (by decide) (by unfold maxLen; omega) (by omega) (by have := HG.out.2.1.size; simp; omega) _ rfl ?_; intro g' cap w2 hown2 hg2 hlies hlt2))
            have hw2 : Below w0.heap.size w0 w2 := by
              have hs1 := HG.out.2.1.size
              refine ((HG.out.2.1.alloc hs1 _).trans ⟨hg2.os, hg2.tape, hg2.output, hg2.size, fun j hj => hg2.block j (by simp; omega) (fun e => ?_)⟩)
              have := (ho.lt j e.symm).1
              omega
            rw [← tcells_append, ← insAt_end] at hown2
            obtain ⟨n1, hn1⟩ : ∃ n1, n1 = g.length + 1 := ⟨_, rfl⟩
            have hgn : g.length = n1 - 1 := by omega
            rw [← hn1] at hown2 ⊢
            have hfin : ∀ (j : Nat) (W : World), j = spot (ta, td) g g.length → W.ownsRow w0.heap.size 91 2 (.slice (some ⟨g', 0, none⟩) n1 cap) n1 (tcells (insAt g (ta, td) j)) → W.ownsRow w0.heap.size 91 2 (.slice (some ⟨g', 0, none⟩) n1 cap) (gather now k (l.take (q + 1))).length (tcells (gather now k (l.take (q + 1)))) := fun j W hj h => by
              have e : gather now k (l.take (q + 1)) = insAt g (ta, td) j := by
                rw [HG.out.1, if_pos (by simpa using hpl), ins, ← hj]
              rw [e, insAt_len, ← hn1]
              exact h
            have HK : Hid (_ ∧ _ ∧ _ ∧ _) := ⟨hown2, hw2, ho, hfin⟩
            clear hown2 hg2 hlies ho hfin
            go_loopw [9] (fun i wr => ∃ (j : Nat), i = .int .i64 j ∧ j ≤ g.length ∧ spot (ta, td) g j = spot (ta, td) g g.length ∧ wr.ownsRow w0.heap.size 91 2 (.slice (some ⟨g', 0, none⟩) n1 cap) n1 (tcells (insAt g (ta, td) j)) ∧ Below w0.heap.size w0 wr) (fun i _ => (intOf i).toNat)
            case atStart =>
              refine ⟨g.length, by simp, Nat.le_refl _, rfl, HK.out.1, HK.out.2.1⟩
            case round =>
              obtain ⟨j, rfl, hj, hsp, ho, hb4⟩ := hrel
              cases j with
              | zero =>
                have HZ : Hid (_ ∧ _ ∧ _) := ⟨hsp, ho, hb4⟩
                clear hsp ho hb4
                go_wp2_with fail
                go_region
                go_wp2
                go_roundw
                case rel => exact ⟨q + 1, by simp, hq2, HK.out.2.2.2 0 _ HZ.out.1 HZ.out.2.1, HZ.out.2.2.drew⟩
                case measure => simp [intOf]; omega
              | succ j =>
                have hgj : j < g.length := hj
                obtain ⟨m, hm⟩ : ∃ m, m = j + 1 := ⟨_, rfl⟩
                rw [← hm] at hsp ho hj ⊢
                have hm1 : (0 : Int) ≤ (m : Int) := by omega
                have hm2 : (m : Int) < (n1 : Int) := by omega
                have hm3 : (0 : Int) < (m : Int) := by omega
                have hm5 : 0 < m := by omega
                have hj1 : (0 : Int) ≤ (j : Int) := by omega
                have hj2 : (j : Int) < (n1 : Int) := by omega
                have hj3 : IntKind.i64.wrap ((m : Int) - 1) = (j : Int) := by rw [IntKind.wrap_i64]; omega
                have f1 := tcells_at (insAt g (ta, td) m) m (by rw [insAt_len]; omega)
                have f2 := tcells_at (insAt g (ta, td) m) j (by rw [insAt_len]; omega)
                have f3 := insAt_get g (ta, td) m hj
                have f4 := insAt_before g (ta, td) j hgj
                rw [← hm] at f4
                rw [List.getElem?_eq_getElem (by rw [insAt_len]; omega)] at f3 f4
                rw [Option.some.inj f3, ← ho.cellAt _ (by omega), ← ho.cellAt _ (by omega)] at f1
                rw [Option.some.inj f4, ← ho.cellAt _ (by omega), ← ho.cellAt _ (by omega)] at f2
                obtain ⟨f1, f1'⟩ := f1
                obtain ⟨f2, f2'⟩ := f2
                obtain ⟨xa, hxa⟩ : ∃ xa, g[j].1 = xa := ⟨_, rfl⟩
                obtain ⟨xd, hxd⟩ : ∃ xd, g[j].2 = xd := ⟨_, rfl⟩
                have hgj' : g[j] = (xa, xd) := Prod.ext hxa hxd
                rw [hxa] at f2
                rw [hxd] at f2'
                have hz1' := ho.frozenAt (j * 2)
                have hz2' := ho.frozenAt (j * 2 + 1)
                have hz3' := ho.frozenAt (m * 2)
                have hz4' := ho.frozenAt (m * 2 + 1)
                have hsp2 : spot (ta, td) g m = if ahead (ta, td) (xa, xd) then spot (ta, td) g j else j + 1 := by
                  rw [hm, spot, show g.getD j (0, 0) = g[j] by simp [List.getD, List.getElem?_eq_getElem hgj], hgj']
                have HJ : Hid (_ ∧ _ ∧ _ ∧ _ ∧ _ ∧ _ ∧ _) := ⟨hsp, ho, hb4, hsp2, hgj', hm, hn1⟩
                clear hsp hb4 hsp2 hgj' hxa hxd f3 f4 ho hm hn1 hgn
                have hlt3 : g' < wr.heap.size := (HJ.out.2.1.lt g' rfl).2
                cases hah : ahead (ta, td) (xa, xd)
                · go_wp2_with fail
                  go_region_held3 (fun w' => w'.cell? ⟨g', m * 2, none⟩ = some (.int .i64 ta) ∧ w'.cell? ⟨g', m * 2 + 1, none⟩ = some (.int .i64 td) ∧ w'.cell? ⟨g', j * 2, none⟩ = some (.int .i64 xa) ∧ w'.cell? ⟨g', j * 2 + 1, none⟩ = some (.int .i64 xd) ∧ Below wr.heap.size wr w') (first | exact held4 hlt3 f1 f1' f2 f2' ((Below.refl _ _).drew) | exact held4 hlt3 f1 f1' f2 f2' (below_of_drew hb1)) (first | (go_at_call 39; refine (ahead_b ta td xa xd _).mono ?_; rintro r w1 ⟨rfl, hb1⟩; rw [hah]))
                  have hb5 := below_of_drew hb1
                  have ho1 := own_block HJ.out.2.1 (fun i hi => hb5.block i (HJ.out.2.1.lt i hi).2)
                  have HB : Hid (_ ∧ _) := ⟨hb5, ho1⟩
                  clear f1 f1' f2 f2' hz1' hz2' hz3' hz4' hb1 hb5 ho1
                  go_wp2
                  go_roundw
                  case rel =>
                    refine ⟨q + 1, by simp, hq2, HK.out.2.2.2 m _ ?_ HB.out.2, HJ.out.2.2.1.trans (HB.out.1.mono HJ.out.2.2.1.size)⟩
                    have h1 := HJ.out.2.2.2.1
                    rw [if_neg (by rw [hah]; exact Bool.false_ne_true)] at h1
                    rw [← HJ.out.1, h1]
                    exact HJ.out.2.2.2.2.2.1
                  case measure => simp [intOf]; omega
                · go_wp2_with fail
                  go_region_held3 (fun w' => w'.cell? ⟨g', m * 2, none⟩ = some (.int .i64 ta) ∧ w'.cell? ⟨g', m * 2 + 1, none⟩ = some (.int .i64 td) ∧ w'.cell? ⟨g', j * 2, none⟩ = some (.int .i64 xa) ∧ w'.cell? ⟨g', j * 2 + 1, none⟩ = some (.int .i64 xd) ∧ Below wr.heap.size wr w') (first | exact held4 hlt3 f1 f1' f2 f2' ((Below.refl _ _).drew) | exact held4 hlt3 f1 f1' f2 f2' (below_of_drew hb1)) (first | (go_at_call 39; refine (ahead_b ta td xa xd _).mono ?_; rintro r w1 ⟨rfl, hb1⟩; rw [hah]))
                  have hb5 := below_of_drew hb1
                  have ho1 := own_block HJ.out.2.1 (fun i hi => hb5.block i (HJ.out.2.1.lt i hi).2)
                  have hlt4 : g' < w1.heap.size := Nat.lt_of_lt_of_le hlt3 hb5.size
                  have k1 := (hb5.cell (p := ⟨g', m * 2, none⟩) hlt3).trans f1
                  have k2 := (hb5.cell (p := ⟨g', m * 2 + 1, none⟩) hlt3).trans f1'
                  have k3 := (hb5.cell (p := ⟨g', j * 2, none⟩) hlt3).trans f2
                  have k4 := (hb5.cell (p := ⟨g', j * 2 + 1, none⟩) hlt3).trans f2'
                  have z1 := ho1.frozenAt (j * 2)
                  have z2 := ho1.frozenAt (j * 2 + 1)
                  have z3 := ho1.frozenAt (m * 2)
                  have z4 := ho1.frozenAt (m * 2 + 1)
                  have hne : m ≠ j := by have := HJ.out.2.2.2.2.2.1; omega
                  have HB : Hid (_ ∧ _) := ⟨hb5, ho1⟩
                  clear f1 f1' f2 f2' hz1' hz2' hz3' hz4' hb1 hb5 ho1
                  go_wp2
                  have hge := (HB.out.2.lt g' rfl).1
                  refine ⟨⟨j, rfl, by omega, ?_, ?_, ?_⟩, ?_⟩
                  · rw [← HJ.out.1, HJ.out.2.2.2.1, if_pos hah]
                  · have s1 := (HB.out.2.stored (m * 2) (.int .i64 xa)).1
                    have s2 := (s1.stored (m * 2 + 1) (.int .i64 xd)).1
                    have s3 := (s2.stored (j * 2) (.int .i64 ta)).1
                    have s4 := ((s3.stored (j * 2 + 1) (.int .i64 td)).1).alloc (.cells #[.int .i64 ta, .int .i64 td] 91)
                    rw [tcells_set _ m (xa, xd), tcells_set _ j (ta, td), ← HJ.out.2.2.2.2.1, HJ.out.2.2.2.2.2.1, insAt_step g (ta, td) j hgj] at s4
                    rw [HJ.out.2.2.2.2.2.1]
                    exact s4
                  · exact (((((HJ.out.2.2.1.trans (HB.out.1.mono HJ.out.2.2.1.size)).setCell (p := ⟨g', m * 2, none⟩) hge _).setCell (p := ⟨g', m * 2 + 1, none⟩) hge _).setCell (p := ⟨g', j * 2, none⟩) hge _).setCell (p := ⟨g', j * 2 + 1, none⟩) hge _).alloc (by have h1 := HJ.out.2.2.1.size; have h2 := HB.out.1.size; simp; omega) _
                  · have := HJ.out.2.2.2.2.2.1
                    simp [intOf]; omega
          · have hge : gather now k (l.take (q + 1)) = g := by rw [HG.out.1, if_neg (by simpa using hpl)]
            have HZ : Hid (_ ∧ _) := ⟨hge, ho⟩
            clear hge ho
            go_wp2_with (first | (go_at_call 38; refine (placeOf_any _ _ _ hlq.1 hlq.2 hn hn2).mono ?_; rintro r w1 ⟨rfl, rfl⟩))
            go_roundw
            case rel => exact ⟨q + 1, by simp, hq2, by rw [HZ.out.1]; exact HZ.out.2, HG.out.2.1⟩
            case measure => simp [intOf]; omega
        · obtain rfl : q = l.length := by omega
          rw [List.take_length] at ho
          obtain ⟨yp, yc, rfl⟩ := own_form ho
          obtain ⟨h1, h2, hown, _, hl⟩ := HH.out
          have hs2 := hb2.size
          have r1 : wr.heap[w.heap.size]? = some (.cells #[.int .i64 0, .slice none 0 0] 47 (0, 0)) := (hb2.block _ (by omega)).trans h1
          have r2 : wr.heap[w.heap.size + 1]? = some (.cells #[.int .i64 now, x] 47 (0, 0)) := (hb2.block _ (by omega)).trans h2
          have c2 : wr.cell? ⟨w.heap.size + 1, 1, none⟩ = some x := by simp [World.cell?, r2]
          have hb6 : w.heap.size + 1 < wr.heap.size := by omega
          have hownr := hown.below hb2
          have hkeep : ∀ (w2 : World) (i : Nat) (o : Obj), i < w.heap.size + 2 → (wr.alloc (.cells #[.slice yp (gather now k l).length yc] 89)).grownBy w2 x.ownBlock → wr.heap[i]? = some o → w2.heap[i]? = some o := fun w2 i o hk hg ho => by
            rw [hg.block i (by simp; omega) (fun e => by have := (hown.row.lt i e.symm).1; omega)]
            exact heap_old _ _ ho
          have hkeep2 : ∀ (w2 : World), (wr.alloc (.cells #[.slice yp (gather now k l).length yc] 89)).grownBy w2 x.ownBlock → w2.heap[w.heap.size]? = some (.cells #[.int .i64 0, .slice none 0 0] 47 (0, 0)) ∧ w2.heap[w.heap.size + 1]? = some (.cells #[.int .i64 now, x] 47 (0, 0)) ∧ w2.cell? ⟨w.heap.size + 1, 1, none⟩ = some x ∧ w2.frozen? ⟨w.heap.size + 1, 1, none⟩ = false := fun w2 hg => by
            have q0 := hkeep w2 _ _ (by omega) hg r2
            exact ⟨hkeep w2 _ _ (by omega) hg r1, q0, by simp [World.cell?, q0], by simp [World.frozen?, q0]⟩
          have hwl : (wheelTo now l k).length = k := by simp [wheelTo]
          have hrow := hownr.row
          rw [hwl] at hrow
          have HM : Hid (_ ∧ _ ∧ _ ∧ _ ∧ _ ∧ _ ∧ _ ∧ _) := ⟨ho, hownr, hkeep2, r1, r2, hl, hown, h1⟩
          clear ho hownr r1 r2 hl hown h1 h2 c1 hkeep hkeep2 pa hwl
          go_wp2_with (first | (at_builtin; refine wpList_append_lies _ rfl _ _ 45 rfl (w.heap.size + 2) 89 i1 _ 1 24 Try.underlying45 hj hy0 hy1 hy2 rfl (by decide) x k vs rfl (hrow.alloc _) _ 1 1 [.slice yp (gather now k l).length yc] rfl rfl (news_at _ _ _) (by intro u hu; rw [List.mem_singleton.1 hu]; rfl) (by decide) (by unfold maxLen; omega) (by omega) (by simp; omega) _ rfl ?_; intro g' cap w2 hown2 hg2 hlies hlt2; obtain ⟨q3, q0, q1, q2⟩ := HM.out.2.2.1 w2 hg2))
          have hw2 : wr.heap.size + 1 ≤ w2.heap.size := by have := hg2.size; simpa using this
          have hpush := HM.out.2.2.2.2.2.2.1.push (l := gather now k l) (by omega) (hb2.alloc hs2 (.cells #[.slice yp (gather now k l).length yc] 89)) (HM.out.1.alloc _) (by have := hown2; rw [show (wheelTo now l k).length = k by simp [wheelTo]]; exact this) hg2 rfl hlies
          refine ⟨⟨k + 1, .slice (some ⟨g', 0, none⟩) (k + 1) cap, vs ++ [.slice yp (gather now k l).length yc], by simp, hlt, ?_, ?_, ?_, ?_, ?_⟩, by simp [intOf]; omega⟩
          · rw [Below.heap_setCell _ _ _ _ (by simp)]; exact q3
          · rw [heap_setCell_same _ _ _ _ _ _ q0]; rfl
          · rw [show wheelTo now l (k + 1) = wheelTo now l k ++ [gather now k l] by simp [wheelTo, List.range_succ]]
            exact hpush.keep fun i h1 _ => Below.heap_setCell _ _ _ _ (by simp; omega)
          · have hbw : Below w.heap.size w wr := HH.out.2.2.2.1.trans (hb2.mono HH.out.2.2.2.1.size)
            refine ((hbw.alloc (by omega) _).trans ⟨hg2.os, hg2.tape, hg2.output, hg2.size, fun i hi => hg2.block i (by simp; omega) (fun e => ?_)⟩).setCell (by simp) _
            have := (HM.out.2.1.row.lt i e.symm).1
            omega
          · simp; omega
    · obtain rfl : k = 25 := by omega
      obtain ⟨h1, h2, hown, hbw, hl⟩ := HH.out
      have c0 : w0.cell? ⟨w.heap.size + 1, 0, none⟩ = some (.int .i64 now) := by simp [World.cell?, h2]
      have d0 : w0.cell? ⟨w.heap.size, 0, none⟩ = some (.int .i64 0) := by simp [World.cell?, h1]
      have d1 : w0.cell? ⟨w.heap.size, 1, none⟩ = some (.slice none 0 0) := by simp [World.cell?, h1]
      have f0 : w0.frozen? ⟨w.heap.size, 0, none⟩ = false := by simp [World.frozen?, h1]
      have f1 : w0.frozen? ⟨w.heap.size, 1, none⟩ = false := by simp [World.frozen?, h1]
      have HM : Hid (_ ∧ _ ∧ _) := ⟨h1, hown, hbw⟩
      obtain ⟨xp, xc, rfl⟩ := own_form hown.row
      clear h1 h2 hown hbw hl pa HH
      go_wp2
      have hcell : ∀ i, i < 2 → (((w0.setCell ⟨w.heap.size, 0, none⟩ (.int .i64 now)).setCell ⟨w.heap.size, 1, none⟩ (.slice xp (wheelTo now l 25).length xc)).cell? ⟨w.heap.size, i, none⟩) = some (if i = 0 then .int .i64 now else .slice xp (wheelTo now l 25).length xc) := fun i hi => by
        have h3 := heap_setCell_same _ _ 1 _ _ (.slice xp (wheelTo now l 25).length xc) (heap_setCell_same w0 w.heap.size 0 _ _ (.int .i64 now) HM.out.1)
        have hi2 : i = 0 ∨ i = 1 := by omega
        rcases hi2 with rfl | rfl <;> simp [World.cell?, h3]
      have e0 := hcell 0 (by omega)
      have e1 := hcell 1 (by omega)
      simp only [if_true, Nat.one_ne_zero, if_false] at e0 e1
      refine bodyPost_ret (v := .agg #[.int .i64 now, .slice xp (wheelTo now l 25).length xc]) (by simp [results, Try.results22, go_sem, e0, e1]) rfl ⟨_, vs, rfl, ?_, ?_⟩
      · refine (HM.out.2.1.keep fun i h1 _ => ?_).mono (by omega)
        rw [Below.heap_setCell _ _ _ _ (by simp; omega), Below.heap_setCell _ _ _ _ (by simp; omega)]
      · exact (HM.out.2.2.setCell (by simp) _).setCell (by simp) _

end

section
def bare : List (List Tm) := List.replicate 25 []

theorem bare_own (w : World) : OwnLs (w.alloc (.cells (List.replicate 25 (Value.slice none 0 0)).toArray 89)) w.heap.size (.slice (some ⟨w.heap.size, 0, none⟩) 25 25) (List.replicate 25 (Value.slice none 0 0)) bare := by
  refine ⟨?_, ⟨by simp [bare], fun i h1 h2 => ?_⟩, ?_⟩
  · have := World.ownsRow_lit (base := w.heap.size) (e := 89) (size := 1) w (List.replicate 25 (Value.slice none 0 0)).toArray 25 (Nat.le_refl _) (by unfold maxLen; omega) (by simp)
    simpa [bare] using this
  · simp only [bare, List.getElem_replicate]
    exact World.ownsRow_nil _ _ _ _
  · refine List.pairwise_cons.2 ⟨fun x hx k hk e => ?_, List.pairwise_replicate.2 (.inr fun k hk => ?_)⟩
    · rw [(List.mem_replicate.1 hx).2] at e; cases e
    · cases hk

theorem made25 (W : World) : (Instr.makeSlice 45 (.int .i64 25) (.int .i64 25)).run Try.prog W = .ok (.slice (some ⟨W.heap.size, 0, none⟩) 25 25) (W.alloc (.cells (List.replicate 25 (Value.slice none 0 0)).toArray 89)) := by
  obtain ⟨i1, hj, hy0, hy1, hy2⟩ := info_parts infoTms
  have h := run_makeSlice (P := Try.prog) W 45 89 i1 _ Try.underlying45 hj hy0 .i64 .i64 25 25 (by decide) (by decide) (by rw [hy1]; decide) (by rw [hy2]; decide) (by decide)
  have e : madeCells (Value.slice none 0 0).cells (Int.toNat 25 * 1) = (List.replicate 25 (Value.slice none 0 0)).toArray := Array.toList_inj.1 (toList_madeCells_one (.slice none 0 0) 25)
  rw [h, hy1, e]
  rfl

theorem two_cells {w : World} {g : Nat} {a b : Value} {T : TypeId} (h : w.heap[g]? = some (.cells #[a, b] T (0, 0))) : w.cell? ⟨g, 0, none⟩ = some a ∧ w.cell? ⟨g, 1, none⟩ = some b ∧ w.frozen? ⟨g, 0, none⟩ = false ∧ w.frozen? ⟨g, 1, none⟩ = false ∧ g < w.heap.size := by
  refine ⟨by simp [World.cell?, h], by simp [World.cell?, h], by simp [World.frozen?, h], by simp [World.frozen?, h], ?_⟩
  exact (Array.getElem?_eq_some_iff.1 h).1

theorem two_set {w : World} {g : Nat} {a b c d : Value} {T : TypeId} (h : w.heap[g]? = some (.cells #[a, b] T (0, 0))) : ((w.setCell ⟨g, 0, none⟩ c).setCell ⟨g, 1, none⟩ d).heap[g]? = some (.cells #[c, d] T (0, 0)) :=
  heap_setCell_same _ _ 1 _ _ d (heap_setCell_same w g 0 _ _ c h)

theorem two_set_cells {w : World} {g : Nat} {a b c d : Value} {T : TypeId} (h : w.heap[g]? = some (.cells #[a, b] T (0, 0))) : ((w.setCell ⟨g, 0, none⟩ c).setCell ⟨g, 1, none⟩ d).cell? ⟨g, 0, none⟩ = some c ∧ ((w.setCell ⟨g, 0, none⟩ c).setCell ⟨g, 1, none⟩ d).cell? ⟨g, 1, none⟩ = some d :=
  ⟨(two_cells (two_set h)).1, (two_cells (two_set h)).2.1⟩

theorem OwnLs.set2 {w : World} {base g : Nat} {v : Value} {vs : List Value} {ls : List (List Tm)} (h : OwnLs w base v vs ls) (hg : g < base) (c d : Value) : OwnLs ((w.setCell ⟨g, 0, none⟩ c).setCell ⟨g, 1, none⟩ d) base v vs ls :=
  h.keep fun i h1 _ => by rw [Below.heap_setCell _ _ _ _ (by simp; omega), Below.heap_setCell _ _ _ _ (by simp; omega)]

set_option maxHeartbeats 1000000 in
theorem empty_any (now : Int) (w : World) : Calls Try.prog 37 #[.int .i64 now] w fun r w' => r = .returned (.agg #[.int .i64 now, .slice (some ⟨w.heap.size + 1, 0, none⟩) 25 25]) ∧ OwnLs w' (w.heap.size + 1) (.slice (some ⟨w.heap.size + 1, 0, none⟩) 25 25) (List.replicate 25 (Value.slice none 0 0)) bare ∧ w'.heap.size = w.heap.size + 2 ∧ Below w.heap.size w w' := by
  have hm := made25
  generalize hc : (List.replicate 25 (Value.slice none 0 0)).toArray = cs at hm
  have HC : Hid _ := hc
  clear hc
  go_enter Try.func37, Try.ntmps37
  go_wp2
  refine bodyPost_ret (v := .agg #[.int .i64 now, .slice (some ⟨w.heap.size + 1, 0, none⟩) 25 25]) (by simp [results, Try.results37, go_sem]) rfl ⟨rfl, ?_, by simp, ?_⟩
  · have h := bare_own (w.alloc (.cells #[.int .i64 now, .slice (some ⟨w.heap.size + 1, 0, none⟩) 25 25] 47))
    rw [HC.out] at h
    simpa using h
  · exact ((Below.refl _ _).alloc (Nat.le_refl _) _).alloc (by simp) _

set_option maxHeartbeats 1000000 in
theorem new_ok (now : Int) (w : World) (h : 0 ≤ now ∧ now ≤ 1099511627776) : Calls Try.prog 19 #[.int .i64 now] w fun r w' => ∃ v vs, r = .returned (.tuple #[.agg #[.int .i64 now, v], .int .i64 0]) ∧ OwnLs w' w.heap.size v vs bare ∧ Below w.heap.size w w' := by
  have hd : decide (0 ≤ now ∧ now ≤ 1099511627776) = true := decide_eq_true h
  clear h
  go_enter Try.func19, Try.ntmps19
  go_wp2_with fail
  refine (isTick_any _ _).mono ?_
  rw [hd]
  rintro r w1 ⟨rfl, rfl⟩
  go_wp2_with fail
  refine (empty_any _ _).mono ?_
  rintro r w1 ⟨rfl, hown, hsz, hb⟩
  have hs1 : (w.alloc (.cells #[.int .i64 0, .slice none 0 0] 47)).heap.size = w.heap.size + 1 := by simp
  rw [hs1] at hown
  have hh : w1.heap[w.heap.size]? = some (.cells #[.int .i64 0, .slice none 0 0] 47 (0, 0)) := (hb.block _ (by simp)).trans (heap_alloc_new _ _)
  obtain ⟨c0, c1, f0, f1, hlt⟩ := two_cells hh
  have H : Hid (_ ∧ _ ∧ _) := ⟨hh, hown, hb⟩
  clear hh hown hb
  go_wp2
  obtain ⟨e0, e1⟩ := two_set_cells (c := .int .i64 now) (d := .slice (some ⟨w.heap.size + 1 + 1, 0, none⟩) 25 25) H.out.1
  refine bodyPost_ret (v := .tuple #[.agg #[.int .i64 now, .slice (some ⟨w.heap.size + 1 + 1, 0, none⟩) 25 25], .int .i64 0]) (by simp [results, Try.results19, go_sem, e0, e1]) rfl ⟨_, List.replicate 25 (Value.slice none 0 0), rfl, ?_, ?_⟩
  · have h := H.out.2.1.set2 (g := w.heap.size) (by omega) (.int .i64 now) (.slice (some ⟨w.heap.size + 1 + 1, 0, none⟩) 25 25)
    exact h.mono (by omega)
  · exact ((((Below.refl _ _).alloc (Nat.le_refl _) _).trans (H.out.2.2.mono (by simp))).setCell (by simp) _).setCell (by simp) _

end

end Go.Proofs.Ytlphohahijeimaa.Wh
