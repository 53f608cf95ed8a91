/-
  What the laws use besides: the same wheels are the same; a number picked. No condition but that the wheels can be read.
-/
import Derived.Test.YtjjlekohkoicbaaDoorNew0
import Derived.WalkKit
import Derived.ProofKit
import Derived.Handy
import Derived.LoopTactic
import Derived.Below
import Derived.Laws.BitsAllLaws
import Derived.RegionTactic
import Derived.Deep.RegionHeld3
import Derived.Deep.DrawnRows
import Derived.Deep.AppendLies
import Derived.Laws.OwnMore
import Derived.Deep.Onto
import Derived.Deep.QuietTactic
import Derived.BigQuiet
namespace Go.Proofs.YtjjlekohkoicbaaDoor.Walks
open Go.RowKit
set_option linter.unusedVariables false
set_option linter.unusedSimpArgs false
attribute [local go_sem ↓] Go.wp_at_zero Go.wp_at_succ

set_option maxHeartbeats 4000000 in
set_option maxRecDepth 100000 in
theorem keepSame (x y : Value) (now : Int) (ls : List (List Tm)) (w : World) (hx : WhAt w x now ls) (hy : WhAt w y now ls) :
    Calls Tryd.prog 20 #[x, y] w fun r w' => r = .returned (.bool true) ∧ Below w.heap.size w w' := by
  obtain ⟨u, rfl, hu⟩ := hx
  obtain ⟨v, rfl, hv⟩ := hy
  obtain ⟨a, ca, rfl, hca, hma, pa⟩ := hu.parts
  obtain ⟨b, cb, rfl, hcb, hmb, pb⟩ := hv.parts
  unfold maxLen at hma hmb
  go_enter Tryd.func20, Tryd.ntmps20
  go_wp2
  go_loopw [5] (fun i wr => ∃ k : Nat, i = .int .i64 k ∧ k ≤ ls.length ∧ Below (w.heap.size + 2) ((w.alloc (.cells #[.int .i64 now, .slice a ls.length ca] 24)).alloc (.cells #[.int .i64 now, .slice b ls.length cb] 24)) wr) (fun i _ => ls.length - (intOf i).toNat)
  case atStart => exact ⟨0, rfl, Nat.zero_le _, Below.refl _ _⟩
  case round =>
    obtain ⟨k, rfl, hk, hb⟩ := hrel
    obtain ⟨w2, hw2⟩ : ∃ w2, w2 = wr := ⟨_, rfl⟩
    subst hw2
    have f1 : w2.cell? ⟨w.heap.size, 1, none⟩ = some (.slice a ls.length ca) := by rw [hb.cell (p := ⟨w.heap.size, 1, none⟩) (by simp)]; simp
    have f2 : w2.cell? ⟨w.heap.size + 1, 1, none⟩ = some (.slice b ls.length cb) := by rw [hb.cell (p := ⟨w.heap.size + 1, 1, none⟩) (by simp)]; simp
    have hbw : Below w.heap.size w w2 := (((Below.refl _ _).alloc (Nat.le_refl _) _).alloc (by simp) _).trans (hb.mono (by omega))
    by_cases hlt : k < ls.length
    · obtain ⟨b1, o1, u1, rfl, hb1, c1, t1⟩ := pa k hlt
      obtain ⟨b2, o2, u2, rfl, hb2, c2, t2⟩ := pb k hlt
      have e1 := (hbw.cell (p := ⟨b1, o1 + k, none⟩) hb1).trans c1
      have e2 := (hbw.cell (p := ⟨b2, o2 + k, none⟩) hb2).trans c2
      obtain ⟨l, hl⟩ : ∃ l, l = ls[k] := ⟨_, rfl⟩
      rw [← hl] at t1 t2
      obtain ⟨a1, ca1, rfl, hca1, hma1, q1⟩ := t1.parts
      obtain ⟨a2, ca2, rfl, hca2, hma2, q2⟩ := t2.parts
      unfold maxLen at hma1 hma2
      have hkd : decide ((k : Int) < (ls.length : Int)) = true := decide_eq_true (by omega)
      have HR : Hid (_ ∧ _ ∧ _ ∧ _) := ⟨hb, q1, q2, hbw⟩
      clear c1 c2 hb1 hb2 pa pb t1 t2 hbw hb q1 q2 hl hu hv
      go_wp2_with fail
      go_region
      go_wp2
      go_loopw [6] (fun i wr => ∃ q d : Nat, i = .int .i64 q ∧ q ≤ l.length ∧ wr = w2.drewN d) (fun i _ => l.length - (intOf i).toNat)
      case atStart => exact ⟨0, 1, rfl, Nat.zero_le _, rfl⟩
      case round =>
        obtain ⟨q, d, rfl, hq, rfl⟩ := hrel
        by_cases hql : q < l.length
        · obtain ⟨g1, p1, rfl, hg1, x1, y1⟩ := HR.out.2.1 q hql
          obtain ⟨g2, p2, rfl, hg2, x2, y2⟩ := HR.out.2.2.1 q hql
          have z1 := (HR.out.2.2.2.cell (p := ⟨g1, p1 + q * 2, none⟩) hg1).trans x1
          have z2 := (HR.out.2.2.2.cell (p := ⟨g1, p1 + q * 2 + 1, none⟩) hg1).trans y1
          have z3 := (HR.out.2.2.2.cell (p := ⟨g2, p2 + q * 2, none⟩) hg2).trans x2
          have z4 := (HR.out.2.2.2.cell (p := ⟨g2, p2 + q * 2 + 1, none⟩) hg2).trans y2
          generalize l[q].1 = xa at z1 z3
          generalize l[q].2 = xd at z2 z4
          clear x1 x2 y1 y2 hg1 hg2
          have hqd : decide ((q : Int) < (l.length : Int)) = true := decide_eq_true (by omega)
          go_wp2_with fail
          go_region
          go_wp2
          go_roundw
          case rel => exact ⟨q + 1, d + 1, by simp, hql, rfl⟩
          case measure => simp [intOf]; omega
        · obtain rfl : q = l.length := by omega
          go_wp2
          go_roundw
          case rel => exact ⟨k + 1, by simp, hlt, below_drewN HR.out.1 _⟩
          case measure => simp [intOf]; omega
    · obtain rfl : k = ls.length := by omega
      have HR : Hid _ := hbw
      clear pa pb hb hbw
      go_wp2
      go_ret
      exact ⟨rfl, HR.out⟩

def pick (n : Int) (many : Nat) : Nat := (if n < 0 then (-(n + 1)).toNat else n.toNat) % many
theorem pick_lt (n : Int) (many : Nat) (h : 0 < many) : pick n many < many := Nat.mod_lt _ h
theorem pick_neg (n many : Int) (h : n < 0) (h2 : 0 < many) : -(n + 1).tmod many = ((pick n many.toNat : Nat) : Int) := by
  obtain ⟨m, rfl⟩ := Int.eq_ofNat_of_zero_le (Int.le_of_lt h2)
  obtain ⟨k, hk⟩ := Int.eq_ofNat_of_zero_le (a := -(n + 1)) (by omega)
  unfold pick
  rw [if_pos h, ← Int.neg_tmod, hk, Int.toNat_natCast, Int.toNat_natCast, Int.natCast_emod]
  rfl
theorem pick_pos (n many : Int) (h : 0 ≤ n) (h2 : 0 < many) : n % many = ((pick n many.toNat : Nat) : Int) := by
  obtain ⟨m, rfl⟩ := Int.eq_ofNat_of_zero_le (Int.le_of_lt h2)
  obtain ⟨k, rfl⟩ := Int.eq_ofNat_of_zero_le h
  unfold pick
  rw [if_neg (by omega), Int.toNat_natCast, Int.toNat_natCast, Int.natCast_emod]


theorem ret_int {k : IntKind} {a b : Int} (h : a = b) : Ending.returned (.int k a) = .returned (.int k b) := by rw [h]

set_option maxHeartbeats 400000 in
theorem picked_any (n many : Int) (w : World) (h0 : -9223372036854775808 ≤ n) (h1 : n ≤ 9223372036854775807) (h2 : 0 < many) (h3 : many ≤ 9223372036854775807) : Calls Tryd.prog 18 #[.int .i64 n, .int .i64 many] w fun e w' => e = .returned (.int .i64 ((pick n many.toNat : Nat) : Int)) ∧ w' = w := by
  by_cases h : n < 0
  · go_enter Tryd.func18, Tryd.ntmps18
    go_wp2
    go_ret
    exact ⟨ret_int (pick_neg n many h h2), rfl⟩
  · have h' : 0 ≤ n := by omega
    clear h
    go_enter Tryd.func18, Tryd.ntmps18
    go_wp2
    go_ret
    exact ⟨ret_int (pick_pos n many h' h2), rfl⟩

end Go.Proofs.YtjjlekohkoicbaaDoor.Walks
