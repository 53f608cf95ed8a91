/-
  Loads that may be: bound.mayBe, bound.totalOf and the document's LoadsMay. Condition: the loads can be read.
-/
import Derived.Test.YtjkiahdeaeiopaaCap
import Derived.Test.YtjkiahdeaeiopaaLoads
import Derived.WalkKit
import Derived.ProofKit
import Derived.Handy
import Derived.LoopTactic
import Derived.Below
import Derived.Laws.BitsAllLaws
import Derived.RegionTactic
import Derived.Deep.RegionHeld3
import Derived.Deep.DrawnRows
import Derived.Deep.AppendLies
import Derived.Laws.OwnMore
import Derived.Deep.Onto
import Derived.Deep.QuietTactic
import Derived.BigQuiet
namespace Go.Proofs.Ytjkiahdeaeiopaa.Walks
open Go.RowKit
set_option linter.unusedVariables false
set_option linter.unusedSimpArgs false
attribute [local go_sem ↓] Go.wp_at_zero Go.wp_at_succ

abbrev LdOk (x : Ld) : Prop := (0 ≤ x.2.1 ∧ x.2.1 ≤ 8) ∧ 0 ≤ x.2.2 ∧ x.2.2 ≤ 40

/-- Do the loads rise, from a backend on, each within its bounds? -/
def okB : Int → List Ld → Bool
  | _, [] => true
  | n, x :: l => decide (n ≤ x.1 ∧ x.1 < 12 ∧ LdOk x) && okB (x.1 + 1) l

def okFrom (n : Int) (l : List Ld) : Prop := okB n l = true

theorem okFrom_cons {n : Int} {x : Ld} {l : List Ld} : okFrom n (x :: l) ↔ (n ≤ x.1 ∧ x.1 < 12 ∧ LdOk x) ∧ okFrom (x.1 + 1) l := by
  unfold okFrom
  rw [show okB n (x :: l) = (decide (n ≤ x.1 ∧ x.1 < 12 ∧ LdOk x) && okB (x.1 + 1) l) from rfl, Bool.and_eq_true, decide_eq_true_eq]

def LOk (l : List Ld) : Prop := l.length ≤ 12 ∧ okFrom 0 l

/-- May there be such loads? -/
def lokB (l : List Ld) : Bool := decide (l.length ≤ 12) && okB 0 l

theorem lokB_iff {l : List Ld} : lokB l = true ↔ LOk l := by
  unfold lokB LOk okFrom
  rw [Bool.and_eq_true, decide_eq_true_eq]

theorem lokB_not {l : List Ld} (h : ¬ LOk l) : lokB l = false := by
  cases hb : lokB l
  · rfl
  · exact absurd (lokB_iff.1 hb) h

theorem ok_no {p : Prop} [Decidable p] {b : Bool} (h : ¬ p) : (decide p && b) = false := by rw [decide_eq_false h]; rfl

theorem ok_yes {p : Prop} [Decidable p] {b : Bool} (h : p) : (decide p && b) = b := by rw [decide_eq_true h]; rfl

theorem okFrom_all : ∀ {n : Int} {l : List Ld}, okFrom n l → ∀ x ∈ l, LdOk x
  | _, [], _, x, hx => by cases hx
  | _, y :: l, h, x, hx => by
    have h := okFrom_cons.1 h
    rcases List.mem_cons.1 hx with rfl | hx
    · exact h.1.2.2
    · exact okFrom_all h.2 x hx

def tot (l : List Ld) : Int := (l.map (·.2.1)).sum

theorem tot_nil : tot [] = 0 := rfl

theorem tot_snoc (l : List Ld) (x : Ld) : tot (l ++ [x]) = tot l + x.2.1 := by simp [tot]

theorem tot_bd : ∀ (l : List Ld), (∀ x ∈ l, LdOk x) → 0 ≤ tot l ∧ tot l ≤ 8 * l.length
  | [], _ => by simp [tot]
  | x :: l, h => by
    have h1 := tot_bd l fun y hy => h y (List.mem_cons_of_mem _ hy)
    have h2 := (h x (List.mem_cons_self ..)).1
    simp [tot] at h1 ⊢
    omega

theorem tot_ge : ∀ (l : List Ld), (∀ x ∈ l, LdOk x) → ∀ x ∈ l, x.2.1 ≤ tot l
  | [], _, x, hx => by cases hx
  | y :: l, h, x, hx => by
    have h0 := tot_bd l fun y hy => h y (List.mem_cons_of_mem _ hy)
    have h2 := (h y (List.mem_cons_self ..)).1
    have e : tot (y :: l) = y.2.1 + tot l := by simp [tot]
    rw [e]
    rcases List.mem_cons.1 hx with rfl | hx
    · omega
    · have := tot_ge l (fun y hy => h y (List.mem_cons_of_mem _ hy)) x hx
      omega

theorem below_newL (w : World) {o : Obj} : Below w.heap.size w (w.alloc o) := (Below.refl _ _).alloc (Nat.le_refl _) _

set_option maxHeartbeats 4000000 in
theorem mayBe_any (v : Value) (l : List Ld) (w : World) (hv : LdAt w v l) :
    Calls Try.prog 32 #[v] w fun r w' => r = .returned (.bool (lokB l)) ∧ Below w.heap.size w w' := by
  obtain ⟨a, ca, rfl, hca, hma, pa⟩ := hv.parts
  unfold maxLen at hma
  clear hv
  by_cases hbig : 12 < l.length
  · have E : Hid (lokB l = false) := lokB_not fun h => by have := h.1; omega
    have hbI : (12 : Int) < (l.length : Int) := by omega
    clear pa
    go_enter Try.func32, Try.ntmps32
    go_wp2
    go_ret
    exact ⟨by rw [E.out]; rfl, Below.refl _ _⟩
  · have E : Hid (lokB l = okB 0 l) := ok_yes (by omega)
    rw [E.out]
    have hbI : ¬ ((12 : Int) < (l.length : Int)) := by omega
    go_enter Try.func32, Try.ntmps32
    go_wp2
    go_loopw [3, 11] (fun nx i wr => ∃ (k : Nat) (n : Int), i = .int .i64 k ∧ nx = .int .i64 n ∧ k ≤ l.length ∧ (0 ≤ n ∧ n ≤ 12) ∧ okB 0 l = okB n (l.drop k) ∧ Below w.heap.size w wr) (fun _ i _ => l.length - (intOf i).toNat)
    case atStart => exact ⟨0, 0, rfl, rfl, Nat.zero_le _, ⟨by omega, by omega⟩, rfl, Below.refl _ _⟩
    case round =>
      obtain ⟨k, n, rfl, rfl, hk, hn, hall, hb⟩ := hrel
      by_cases hlt : k < l.length
      · obtain ⟨b1, o1, rfl, hb1, c1, c2, c3⟩ := pa k hlt
        replace c1 := (hb.cell (p := ⟨b1, o1 + k * 3, none⟩) hb1).trans c1
        replace c2 := (hb.cell (p := ⟨b1, o1 + k * 3 + 1, none⟩) hb1).trans c2
        replace c3 := (hb.cell (p := ⟨b1, o1 + k * 3 + 2, none⟩) hb1).trans c3
        rw [List.drop_eq_getElem_cons hlt] at hall
        obtain ⟨⟨x1, x2, x3⟩, hx⟩ : ∃ x, x = l[k] := ⟨_, rfl⟩
        rw [← hx] at c1 c2 c3 hall
        replace hall : okB 0 l = (decide (n ≤ x1 ∧ x1 < 12 ∧ LdOk (x1, x2, x3)) && okB (x1 + 1) (l.drop (k + 1))) := hall
        have hbl1 : b1 < wr.heap.size := Nat.lt_of_lt_of_le hb1 hb.size
        have hbn : Below w.heap.size w (wr.alloc (.cells #[.int .i64 x1, .int .i64 x2, .int .i64 x3] 37)) := hb.alloc hb.size _
        have H : Hid (_ ∧ _) := ⟨hall, hbn⟩
        clear hall hb hbn hx pa hb1
        have hkd : (k : Int) < (l.length : Int) := by omega
        cases h1 : decide (x1 < n)
        case true =>
          have F : Hid (okB 0 l = false) := by rw [H.out.1]; exact ok_no fun h => by have := of_decide_eq_true h1; omega
          go_wp2
          go_ret
          exact ⟨by rw [F.out]; rfl, H.out.2⟩
        cases h2 : decide (12 ≤ x1)
        case true =>
          have F : Hid (okB 0 l = false) := by rw [H.out.1]; exact ok_no fun h => by have := of_decide_eq_true h2; omega
          go_wp2
          go_ret
          exact ⟨by rw [F.out]; rfl, H.out.2⟩
        cases h3 : decide (x2 < 0)
        case true =>
          have F : Hid (okB 0 l = false) := by rw [H.out.1]; exact ok_no fun h => by have := of_decide_eq_true h3; have := h.2.2.1; simp at this; omega
          go_wp2
          go_ret
          exact ⟨by rw [F.out]; rfl, H.out.2⟩
        cases h4 : decide (8 < x2)
        case true =>
          have F : Hid (okB 0 l = false) := by rw [H.out.1]; exact ok_no fun h => by have := of_decide_eq_true h4; have := h.2.2.1; simp at this; omega
          go_wp2
          go_ret
          exact ⟨by rw [F.out]; rfl, H.out.2⟩
        cases h5 : decide (0 ≤ x3 ∧ x3 ≤ 40)
        case false =>
          have F : Hid (okB 0 l = false) := by rw [H.out.1]; exact ok_no fun h => of_decide_eq_false h5 h.2.2.2
          go_wp2_with fail
          refine (isFlows_any _ _).mono ?_
          rw [h5]
          rintro r w' ⟨rfl, rfl⟩
          go_wp2
          go_ret
          exact ⟨by rw [F.out]; rfl, H.out.2⟩
        have F : Hid (0 ≤ x1 + 1 ∧ x1 + 1 ≤ 12 ∧ okB 0 l = okB (x1 + 1) (l.drop (k + 1))) := by
          have e1 := of_decide_eq_false h1
          have e2 := of_decide_eq_false h2
          have e3 := of_decide_eq_false h3
          have e4 := of_decide_eq_false h4
          refine ⟨show 0 ≤ x1 + 1 by omega, show x1 + 1 ≤ 12 by omega, ?_⟩
          rw [H.out.1]
          exact ok_yes ⟨by omega, by omega, ⟨by simp; omega, by simp; omega⟩, of_decide_eq_true h5⟩
        have hx1 : -1000 ≤ x1 := by have := of_decide_eq_false h1; omega
        have hx2 : x1 ≤ 1000 := by have := of_decide_eq_false h2; omega
        go_wp2_with fail
        refine (isFlows_any _ _).mono ?_
        rw [h5]
        rintro r w' ⟨rfl, rfl⟩
        go_wp2
        go_roundw
        case rel => exact ⟨k + 1, x1 + 1, by simp, rfl, hlt, ⟨F.out.1, F.out.2.1⟩, F.out.2.2, H.out.2⟩
        case measure => simp [intOf]; omega
      · obtain rfl : k = l.length := by omega
        have F : Hid (okB 0 l = true) := by rw [hall, List.drop_length]; rfl
        have HB : Hid _ := hb
        clear pa hall hb
        go_wp2
        go_ret
        exact ⟨by rw [F.out]; rfl, HB.out⟩

set_option maxHeartbeats 2000000 in
theorem totalOf_any (v : Value) (l : List Ld) (w : World) (hv : LdAt w v l) (hok : LOk l) :
    Calls Try.prog 33 #[v] w fun r w' => r = .returned (.int .i64 (tot l)) ∧ Below w.heap.size w w' := by
  obtain ⟨a, ca, rfl, hca, hma, pa⟩ := hv.parts
  unfold maxLen at hma
  clear hv
  have hl := hok.1
  have hall := okFrom_all hok.2
  go_enter Try.func33, Try.ntmps33
  go_wp2
  go_loopw [3, 8] (fun s i wr => ∃ (k : Nat), i = .int .i64 k ∧ s = .int .i64 (tot (l.take k)) ∧ k ≤ l.length ∧ Below w.heap.size w wr) (fun _ i _ => l.length - (intOf i).toNat)
  case atStart => exact ⟨0, rfl, by simp [tot_nil], Nat.zero_le _, Below.refl _ _⟩
  case round =>
    obtain ⟨k, rfl, rfl, hk, hb⟩ := hrel
    by_cases hlt : k < l.length
    · obtain ⟨b1, o1, rfl, hb1, c1, c2, c3⟩ := pa k hlt
      replace c1 := (hb.cell (p := ⟨b1, o1 + k * 3, none⟩) hb1).trans c1
      replace c2 := (hb.cell (p := ⟨b1, o1 + k * 3 + 1, none⟩) hb1).trans c2
      replace c3 := (hb.cell (p := ⟨b1, o1 + k * 3 + 2, none⟩) hb1).trans c3
      have hs : tot (l.take (k + 1)) = tot (l.take k) + l[k].2.1 := by rw [List.take_succ_eq_append_getElem hlt, tot_snoc]
      have hd := hall l[k] (List.getElem_mem hlt)
      obtain ⟨t1, t2⟩ := tot_bd (l.take k) fun x hx => hall x (List.mem_of_mem_take hx)
      have t3 : ((l.take k).length : Int) ≤ 12 := by rw [List.length_take]; omega
      obtain ⟨⟨x1, x2, x3⟩, hx⟩ : ∃ x, x = l[k] := ⟨_, rfl⟩
      rw [← hx] at c1 c2 c3 hs hd
      have hd1 : 0 ≤ x2 := hd.1.1
      have hd2 : x2 ≤ 8 := hd.1.2
      replace hs : tot (l.take (k + 1)) = tot (l.take k) + x2 := hs
      obtain ⟨s, hss⟩ : ∃ s, s = tot (l.take k) := ⟨_, rfl⟩
      rw [← hss] at hs t1 t2 ⊢
      have t4 : s ≤ 96 := by omega
      have hbl1 : b1 < wr.heap.size := Nat.lt_of_lt_of_le hb1 hb.size
      have hbn : Below w.heap.size w (wr.alloc (.cells #[.int .i64 x1, .int .i64 x2, .int .i64 x3] 37)) := hb.alloc hb.size _
      have H : Hid (_ ∧ _) := ⟨hs, hbn⟩
      clear hs hbn hss hb hx hd pa hb1 t2 t3
      have hkd : (k : Int) < (l.length : Int) := by omega
      go_wp2
      go_roundw
      case rel => exact ⟨k + 1, by simp, by rw [H.out.1], hlt, H.out.2⟩
      case measure => simp [intOf]; omega
    · obtain rfl : k = l.length := by omega
      have HB : Hid _ := hb
      clear pa hb
      rw [List.take_length]
      go_wp2
      go_ret
      exact ⟨rfl, HB.out⟩

set_option maxHeartbeats 4000000 in
set_option maxRecDepth 100000 in
theorem loadsMay_any (v : Value) (l : List Ld) (w : World) (hv : LdAt w v l) :
    Calls Try.prog 37 #[v] w fun r w' => r = .returned (.bool (lokB l)) ∧ Below w.heap.size w w' := by
  obtain ⟨a, ca, rfl, hca, hma, pa⟩ := hv.parts
  unfold maxLen at hma
  clear hv
  by_cases hbig : 12 < l.length
  · have E : Hid (lokB l = false) := lokB_not fun h => by have := h.1; omega
    have hbI : (12 : Int) < (l.length : Int) := by omega
    clear pa
    go_enter Try.func37, Try.ntmps37
    go_wp2
    go_ret
    exact ⟨by rw [E.out]; rfl, Below.refl _ _⟩
  · have E : Hid (lokB l = okB 0 l) := ok_yes (by omega)
    rw [E.out]
    have hbI : ¬ ((12 : Int) < (l.length : Int)) := by omega
    go_enter Try.func37, Try.ntmps37
    go_wp2
    go_loopw [3] (fun i wr => ∃ (k : Nat) (n : Int), i = .int .i64 k ∧ k ≤ l.length ∧ (k = 0 ∧ n = 0 ∨ ∃ j, ∃ h : j < l.length, k = j + 1 ∧ n = l[j].1 + 1) ∧ (0 ≤ n ∧ n ≤ 12) ∧ okB 0 l = okB n (l.drop k) ∧ ∃ q, wr = w.drewN q) (fun i _ => l.length - (intOf i).toNat)
    case atStart => exact ⟨0, 0, rfl, Nat.zero_le _, .inl ⟨rfl, rfl⟩, ⟨by omega, by omega⟩, rfl, 0, rfl⟩
    case round =>
      obtain ⟨k, n, rfl, hk, hprev, hn, hall, q, rfl⟩ := hrel
      by_cases hlt : k < l.length
      · obtain ⟨b1, o1, rfl, hb1, c1, c2, c3⟩ := pa k hlt
        rw [List.drop_eq_getElem_cons hlt] at hall
        obtain ⟨⟨x1, x2, x3⟩, hx⟩ : ∃ x, x = l[k] := ⟨_, rfl⟩
        rw [← hx] at c1 c2 c3 hall
        replace hall : okB 0 l = (decide (n ≤ x1 ∧ x1 < 12 ∧ LdOk (x1, x2, x3)) && okB (x1 + 1) (l.drop (k + 1))) := hall
        have H : Hid (_ ∧ _) := ⟨hall, hx⟩
        clear hall hx
        have hkd : (k : Int) < (l.length : Int) := by omega
        cases h1 : decide (0 ≤ x1 ∧ x1 ≤ 11)
        case false =>
          have F : Hid (okB 0 l = false) := by rw [H.out.1]; exact ok_no fun h => of_decide_eq_false h1 ⟨by omega, by omega⟩
          clear hprev pa hb1
          go_wp2_with fail
          refine (in_any _ _ _ _).mono ?_
          rw [h1]
          rintro r w' ⟨rfl, rfl⟩
          go_wp2
          go_ret
          exact ⟨by rw [F.out]; rfl, below_drewN (Below.refl _ _) q⟩
        cases h2 : decide (0 ≤ x2 ∧ x2 ≤ 8)
        case false =>
          have F : Hid (okB 0 l = false) := by rw [H.out.1]; exact ok_no fun h => of_decide_eq_false h2 h.2.2.1
          clear hprev pa hb1
          go_wp2_with fail
          refine (in_any _ _ _ _).mono ?_
          rw [h1]
          rintro r w' ⟨rfl, rfl⟩
          go_wp2_with fail
          refine (in_any _ _ _ _).mono ?_
          rw [h2]
          rintro r w' ⟨rfl, rfl⟩
          go_wp2
          go_ret
          exact ⟨by rw [F.out]; rfl, below_drewN (Below.refl _ _) q⟩
        cases h3 : decide (0 ≤ x3 ∧ x3 ≤ 40)
        case false =>
          have F : Hid (okB 0 l = false) := by rw [H.out.1]; exact ok_no fun h => of_decide_eq_false h3 h.2.2.2
          clear hprev pa hb1
          go_wp2_with fail
          refine (in_any _ _ _ _).mono ?_
          rw [h1]
          rintro r w' ⟨rfl, rfl⟩
          go_wp2_with fail
          refine (in_any _ _ _ _).mono ?_
          rw [h2]
          rintro r w' ⟨rfl, rfl⟩
          go_wp2_with fail
          refine (in_any _ _ _ _).mono ?_
          rw [h3]
          rintro r w' ⟨rfl, rfl⟩
          go_wp2
          go_ret
          exact ⟨by rw [F.out]; rfl, below_drewN (Below.refl _ _) q⟩
        have hx1 := of_decide_eq_true h1
        have F : Hid (0 ≤ x1 + 1 ∧ x1 + 1 ≤ 12 ∧ okB 0 l = (decide (n ≤ x1) && okB (x1 + 1) (l.drop (k + 1)))) := by
          refine ⟨show 0 ≤ x1 + 1 by omega, show x1 + 1 ≤ 12 by omega, ?_⟩
          rw [H.out.1]
          rw [decide_eq_decide.2 (⟨fun h => h.1, fun h => ⟨h, by omega, of_decide_eq_true h2, of_decide_eq_true h3⟩⟩ : n ≤ x1 ∧ x1 < 12 ∧ LdOk (x1, x2, x3) ↔ n ≤ x1)]
        rcases hprev with ⟨rfl, rfl⟩ | ⟨j, hj, rfl, hnj⟩
        · have G : Hid (okB 0 l = okB (x1 + 1) (l.drop (0 + 1))) := by
            rw [F.out.2.2]
            exact ok_yes (by omega)
          clear pa hb1
          simp only [Nat.zero_mul, Nat.add_zero] at c1 c2 c3
          go_wp2_with fail
          refine (in_any _ _ _ _).mono ?_
          rw [h1]
          rintro r w' ⟨rfl, rfl⟩
          go_wp2_with fail
          refine (in_any _ _ _ _).mono ?_
          rw [h2]
          rintro r w' ⟨rfl, rfl⟩
          go_wp2_with fail
          refine (in_any _ _ _ _).mono ?_
          rw [h3]
          rintro r w' ⟨rfl, rfl⟩
          go_wp2
          go_region
          go_wp2
          go_roundw
          case rel => exact ⟨1, x1 + 1, by simp, hlt, .inr ⟨0, hlt, rfl, by rw [← H.out.2]⟩, ⟨F.out.1, F.out.2.1⟩, G.out, q + 1, rfl⟩
          case measure => simp [intOf]; omega
        · obtain ⟨b2, o2, e2, hb2, d1, _, _⟩ := pa j hj
          injection e2 with e2
          injection e2 with e2 e3
          subst e2 e3
          obtain ⟨y1, hy⟩ : ∃ y, y = l[j].1 := ⟨_, rfl⟩
          rw [← hy] at d1 hnj
          subst hnj
          have HY : Hid _ := hy
          clear hy pa hb1 hb2
          have hgt : (0 : Int) < ((j + 1 : Nat) : Int) := by omega
          have hsub : ((j + 1 : Nat) : Int) - 1 = (j : Int) := by omega
          cases h4 : decide (x1 ≤ y1)
          case true =>
            have G : Hid (okB 0 l = false) := by rw [F.out.2.2]; exact ok_no fun h => by have := of_decide_eq_true h4; omega
            go_wp2_with fail
            refine (in_any _ _ _ _).mono ?_
            rw [h1]
            rintro r w' ⟨rfl, rfl⟩
            go_wp2_with fail
            refine (in_any _ _ _ _).mono ?_
            rw [h2]
            rintro r w' ⟨rfl, rfl⟩
            go_wp2_with fail
            refine (in_any _ _ _ _).mono ?_
            rw [h3]
            rintro r w' ⟨rfl, rfl⟩
            go_wp2
            go_region
            go_wp2
            go_ret
            exact ⟨by rw [G.out]; rfl, below_drewN (Below.refl _ _) (q + 1)⟩
          case false =>
            have G : Hid (okB 0 l = okB (x1 + 1) (l.drop (j + 1 + 1))) := by
              rw [F.out.2.2]
              have := of_decide_eq_false h4
              exact ok_yes (by omega)
            go_wp2_with fail
            refine (in_any _ _ _ _).mono ?_
            rw [h1]
            rintro r w' ⟨rfl, rfl⟩
            go_wp2_with fail
            refine (in_any _ _ _ _).mono ?_
            rw [h2]
            rintro r w' ⟨rfl, rfl⟩
            go_wp2_with fail
            refine (in_any _ _ _ _).mono ?_
            rw [h3]
            rintro r w' ⟨rfl, rfl⟩
            go_wp2
            go_region
            go_wp2
            go_roundw
            case rel => exact ⟨j + 1 + 1, x1 + 1, by simp, hlt, .inr ⟨j + 1, hlt, rfl, by rw [← H.out.2]⟩, ⟨F.out.1, F.out.2.1⟩, G.out, q + 1, rfl⟩
            case measure => simp [intOf]; omega
      · obtain rfl : k = l.length := by omega
        have F : Hid (okB 0 l = true) := by rw [hall, List.drop_length]; rfl
        clear pa hall hprev
        go_wp2
        go_ret
        exact ⟨by rw [F.out]; rfl, below_drewN (Below.refl _ _) q⟩
end Go.Proofs.Ytjkiahdeaeiopaa.Walks
