/-
  usherkeep.parts: loads that may be, out of raw numbers. Condition: the raw numbers can be read.
-/
import Derived.Test.YtjkiahdeaeiopaaCaps
import Derived.Deep.CutRange
import Derived.WalkKit
import Derived.ProofKit
import Derived.Handy
import Derived.LoopTactic
import Derived.Below
import Derived.Laws.BitsAllLaws
import Derived.RegionTactic
import Derived.Deep.RegionHeld3
import Derived.Deep.DrawnRows
import Derived.Deep.AppendLies
import Derived.Laws.OwnMore
import Derived.Deep.Onto
import Derived.Deep.QuietTactic
import Derived.BigQuiet
namespace Go.Proofs.Ytjkiahdeaeiopaa.Walks
open Go.RowKit
set_option linter.unusedVariables false
set_option linter.unusedSimpArgs false
attribute [local go_sem ↓] Go.wp_at_zero Go.wp_at_succ

/-- The load at a place. -/
def pl (raw : List Tm) (i : Nat) : Ld := ((i : Int), ((pick (raw.getD i (0, 0)).1 9 : Nat) : Int), ((pick (raw.getD i (0, 0)).2 4 : Nat) : Int))

def plTo (raw : List Tm) (k : Nat) : List Ld := (List.range k).map (pl raw)

theorem plTo_len (raw : List Tm) (k : Nat) : (plTo raw k).length = k := by simp [plTo]

theorem plTo_succ (raw : List Tm) (k : Nat) : plTo raw (k + 1) = plTo raw k ++ [pl raw k] := by simp [plTo, List.range_succ]

theorem pl_ok (raw : List Tm) (i : Nat) : LdOk (pl raw i) := by
  have h1 := pick_lt (raw.getD i (0, 0)).1 9 (by omega)
  have h2 := pick_lt (raw.getD i (0, 0)).2 4 (by omega)
  unfold LdOk pl
  simp only
  omega

theorem okFrom_of : ∀ (l : List Ld) (n : Int), 0 ≤ n → n + l.length ≤ 12 → (∀ (i : Nat) (x : Ld), l[i]? = some x → x.1 = n + (i : Int) ∧ LdOk x) → okFrom n l
  | [], _, _, _, _ => rfl
  | x :: l, n, h0, h1, h => by
    have hx := h 0 x rfl
    simp at h1
    refine okFrom_cons.2 ⟨⟨by omega, by omega, hx.2⟩, okFrom_of l (x.1 + 1) (by omega) (by omega) fun i y hy => ?_⟩
    have := h (i + 1) y hy
    refine ⟨by omega, this.2⟩

theorem plTo_ok (raw : List Tm) (k : Nat) (hk : k ≤ 12) : LOk (plTo raw k) := by
  refine ⟨by rw [plTo_len]; exact hk, okFrom_of _ 0 (by omega) (by rw [plTo_len]; omega) fun i x hx => ?_⟩
  obtain ⟨h1, rfl⟩ := List.getElem?_eq_some_iff.1 hx
  simp only [plTo, List.getElem_map, List.getElem_range]
  exact ⟨by simp [pl], pl_ok raw i⟩

/-- The flows of those that take something. -/
def flw (l : List Ld) : Int := (l.map fun x => if 0 < x.2.1 then x.2.2 else 0).sum

theorem flw_snoc (l : List Ld) (x : Ld) : flw (l ++ [x]) = flw l + if 0 < x.2.1 then x.2.2 else 0 := by simp [flw]

theorem flw_bd (raw : List Tm) : ∀ k, 0 ≤ flw (plTo raw k) ∧ flw (plTo raw k) ≤ 3 * k
  | 0 => by simp [plTo, flw]
  | k + 1 => by
    have h := flw_bd raw k
    have h2 := pick_lt (raw.getD k (0, 0)).2 4 (by omega)
    rw [plTo_succ, flw_snoc]
    have e : (pl raw k).2.2 = ((pick (raw.getD k (0, 0)).2 4 : Nat) : Int) := rfl
    split <;> omega

def cutK (raw : List Tm) : Nat := min raw.length 12

/-- Loads that may be, of the raw numbers. -/
def partsL (raw : List Tm) : List Ld := plTo raw (cutK raw)

theorem partsL_ok (raw : List Tm) : LOk (partsL raw) := plTo_ok raw _ (Nat.min_le_right _ _)

set_option maxHeartbeats 8000000 in
set_option maxRecDepth 100000 in
theorem parts_any (v : Value) (raw : List Tm) (w : World) (hv : TmAt w v raw) (hwf : ∀ t ∈ raw, (Lit.int .i64 t.1).wf = true ∧ (Lit.int .i64 t.2).wf = true) :
    Calls Try.prog 15 #[v] w fun r w' => ∃ p c, r = .returned (.tuple #[.slice p (partsL raw).length c, .int .i64 (min (flw (partsL raw)) 40), .int .i64 (tot (partsL raw))]) ∧ w'.ownsRow w.heap.size 37 3 (.slice p (partsL raw).length c) (partsL raw).length (lcells (partsL raw)) ∧ Below w.heap.size w w' := by
  obtain ⟨p, ca, rfl, hca, hma, pa⟩ := hv.parts
  unfold maxLen at hma
  have HP : Hid (_ ∧ _) := ⟨pa, hwf⟩
  clear hv pa hwf
  go_enter Try.func15, Try.ntmps15
  go_wp2
  go_loopw [5, 6, 7, 8] (fun o f t i wr => ∃ (k : Nat) (p' : Option Addr) (c' : Nat), i = .int .i64 k ∧ o = .slice p' k c' ∧ f = .int .i64 (flw (plTo raw k)) ∧ t = .int .i64 (tot (plTo raw k)) ∧ k ≤ cutK raw ∧ wr.ownsRow w.heap.size 37 3 (.slice p' k c') k (lcells (plTo raw k)) ∧ Below w.heap.size w wr) (fun _ _ _ i _ => cutK raw - (intOf i).toNat)
  case atStart => exact ⟨0, none, 0, rfl, rfl, rfl, rfl, Nat.zero_le _, World.ownsRow_nil _ _ _ _, Below.refl _ _⟩
  case round =>
    obtain ⟨k, p', c', rfl, rfl, rfl, rfl, hk, ho, hb⟩ := hrel
    have hcut : cutK raw ≤ 12 ∧ cutK raw ≤ raw.length := ⟨Nat.min_le_right _ _, Nat.min_le_left _ _⟩
    obtain ⟨f1, f2⟩ := flw_bd raw k
    obtain ⟨t1, t2⟩ := tot_bd (plTo raw k) (okFrom_all (plTo_ok raw k (by omega)).2)
    rw [plTo_len] at t2
    by_cases hlt : k < cutK raw
    · have hk12 : (k : Int) < 12 := by omega
      have hkl : (k : Int) < (raw.length : Int) := by omega
      have hkn : k < raw.length := by omega
      obtain ⟨b1, o1, rfl, hb1, c1, c2⟩ := HP.out.1 k hkn
      replace c1 := (hb.cell (p := ⟨b1, o1 + k * 2, none⟩) hb1).trans c1
      replace c2 := (hb.cell (p := ⟨b1, o1 + k * 2 + 1, none⟩) hb1).trans c2
      obtain ⟨hw1, hw2⟩ := HP.out.2 raw[k] (List.getElem_mem hkn)
      have hge : raw.getD k (0, 0) = raw[k] := by simp [hkn]
      have hb1w := wf_bd hw1
      have hb2w := wf_bd hw2
      have hP1 := fun W => picked_any raw[k].1 9 W hb1w.1 hb1w.2 (by omega) (by omega)
      have hP2 := fun W => picked_any raw[k].2 4 W hb2w.1 hb2w.2 (by omega) (by omega)
      have hpl : pl raw k = ((k : Int), ((pick raw[k].1 9 : Nat) : Int), ((pick raw[k].2 4 : Nat) : Int)) := by unfold pl; rw [hge]
      obtain ⟨x1, hx1⟩ : ∃ x1, x1 = raw[k].1 := ⟨_, rfl⟩
      obtain ⟨x2, hx2⟩ : ∃ x2, x2 = raw[k].2 := ⟨_, rfl⟩
      rw [← hx1] at c1 hP1 hpl
      rw [← hx2] at c2 hP2 hpl
      have g1 := pick_lt x1 9 (by omega)
      have g2 := pick_lt x2 4 (by omega)
      obtain ⟨y1, hy1⟩ : ∃ y1, y1 = pick x1 9 := ⟨_, rfl⟩
      obtain ⟨y2, hy2⟩ : ∃ y2, y2 = pick x2 4 := ⟨_, rfl⟩
      have hP1' : ∀ W, Calls Try.prog 16 #[.int .i64 x1, .int .i64 9] W fun e w' => e = .returned (.int .i64 (y1 : Int)) ∧ w' = W := fun W => by rw [hy1]; exact hP1 W
      have hP2' : ∀ W, Calls Try.prog 16 #[.int .i64 x2, .int .i64 4] W fun e w' => e = .returned (.int .i64 (y2 : Int)) ∧ w' = W := fun W => by rw [hy2]; exact hP2 W
      rw [← hy1] at g1 hpl
      rw [← hy2] at g2 hpl
      have hs := plTo_succ raw k
      have ht := tot_snoc (plTo raw k) (pl raw k)
      have hf := flw_snoc (plTo raw k) (pl raw k)
      rw [← hs, hpl] at ht hf
      rw [hpl] at hs
      replace ht : tot (plTo raw (k + 1)) = tot (plTo raw k) + (y1 : Int) := ht
      replace hf : flw (plTo raw (k + 1)) = flw (plTo raw k) + if 0 < (y1 : Int) then (y2 : Int) else 0 := hf
      have hbw : Below w.heap.size w (wr.alloc (.cells #[.int .i64 (k : Int), .int .i64 (y1 : Int), .int .i64 (y2 : Int)] 37)) := hb.alloc hb.size _
      have HW : Hid (_ ∧ _ ∧ _ ∧ _) := ⟨heap_alloc_new wr (.cells #[.int .i64 (k : Int), .int .i64 (y1 : Int), .int .i64 (y2 : Int)] 37), ho.alloc (.cells #[.int .i64 (k : Int), .int .i64 (y1 : Int), .int .i64 (y2 : Int)] 37), hbw, (by simp : (wr.alloc (.cells #[.int .i64 (k : Int), .int .i64 (y1 : Int), .int .i64 (y2 : Int)] 37)).heap.size = wr.heap.size + 1)⟩
      clear hbw
      have hbl1 : b1 < wr.heap.size := Nat.lt_of_lt_of_le hb1 hb.size
      have H : Hid (_ ∧ _ ∧ _ ∧ _ ∧ _ ∧ _) := ⟨hP1', hP2', hs, ht, hf, ho⟩
      clear hP1 hP2 hP1' hP2' hx1 hx2 hy1 hy2 hge hpl hs ht hf ho hw1 hw2 hb1w hb2w
      go_wp2
      go_cut [9] from 20 to 33 (fun s wx => s = .pointer (some ⟨wr.heap.size, 0, none⟩) ∧ wx.heap[wr.heap.size]? = some (.cells #[.int .i64 (k : Int), .int .i64 (y1 : Int), .int .i64 (y2 : Int)] 37 (0, 0)) ∧ wx.ownsRow w.heap.size 37 3 (.slice p' k c') k (lcells (plTo raw k)) ∧ Below w.heap.size w wx ∧ wx.heap.size = wr.heap.size + 1)
      case first =>
        go_region_with (first | (go_at_call_of 16 (Value.int .i64 x1); refine (H.out.1 _).mono ?_; rintro r w4 ⟨rfl, rfl⟩) | (go_at_call_of 16 (Value.int .i64 x2); refine (H.out.2.1 _).mono ?_; rintro r w5 ⟨rfl, rfl⟩))
        all_goals
          go_wp2_with fail
          go_meet
          exact ⟨rfl, HW.out.1, HW.out.2.1, HW.out.2.2.1.drew, HW.out.2.2.2⟩
      case rest =>
      obtain ⟨rfl, hbox, ho, hb, hsz⟩ := hcut
      have hne : ∀ q, p' = some q → wr.heap.size ≠ q.block := fun q hq => by
        have := (H.out.2.2.2.2.2.lt q.block (by rw [hq]; rfl)).2
        omega
      obtain ⟨q, d, w', hr, z0, z1, z2, z3⟩ := append_oneL ho hb.size (by omega) 23 (k : Int) (y1 : Int) (y2 : Int)
      have hbox' := (z3 wr.heap.size (by omega) hne).trans hbox
      have hltc : wr.heap.size < wc.heap.size := by omega
      have r0 : wc.cell? ⟨wr.heap.size, 0, none⟩ = some (.int .i64 (k : Int)) := by simp [World.cell?, hbox]
      have r1 : wc.cell? ⟨wr.heap.size, 1, none⟩ = some (.int .i64 (y1 : Int)) := by simp [World.cell?, hbox]
      have r2 : wc.cell? ⟨wr.heap.size, 2, none⟩ = some (.int .i64 (y2 : Int)) := by simp [World.cell?, hbox]
      have s1 : w'.cell? ⟨wr.heap.size, 1, none⟩ = some (.int .i64 (y1 : Int)) := by simp [World.cell?, hbox']
      have s2 : w'.cell? ⟨wr.heap.size, 2, none⟩ = some (.int .i64 (y2 : Int)) := by simp [World.cell?, hbox']
      rw [← H.out.2.2.1] at z0
      have HR : Hid (_ ∧ _ ∧ _) := ⟨hr, z0, hb.trans z1⟩
      clear hr z0 z1 z2 z3 hbox hbox' hne hb ho HW hsz
      obtain ⟨F, hF⟩ : ∃ F, F = flw (plTo raw k) := ⟨_, rfl⟩
      obtain ⟨T, hT⟩ : ∃ T, T = tot (plTo raw k) := ⟨_, rfl⟩
      rw [← hF] at f1 f2 ⊢
      rw [← hT] at t1 t2 ⊢
      have HF : Hid (_ ∧ _) := ⟨hF, hT⟩
      clear hF hT
      have hF40 : F ≤ 40 := by omega
      have hT96 : T ≤ 96 := by omega
      clear f2 t2
      by_cases hy : 0 < (y1 : Int)
      · have hy' : Hid (_ ∧ True) := ⟨hy, trivial⟩
        go_wp2_with (at_builtin; (with_reducible refine wpList_append_eq rfl _ _ 23 rfl (.slice p' k c') (.slice (some ⟨wc.heap.size, 0, none⟩) 1 1) (.slice q (k + 1) d) w' ?hs ?hx ?hr ?_); (case hs => rfl); (case hx => rfl); (case hr => exact HR.out.1))
        go_roundw
        case rel => exact ⟨k + 1, q, d, by simp, rfl, by rw [H.out.2.2.2.2.1, if_pos hy'.out.1, HF.out.1], by rw [H.out.2.2.2.1, HF.out.2], hlt, HR.out.2.1, HR.out.2.2⟩
        case measure => simp [intOf]; omega
      · obtain rfl : y1 = 0 := by omega
        go_wp2_with (at_builtin; (with_reducible refine wpList_append_eq rfl _ _ 23 rfl (.slice p' k c') (.slice (some ⟨wc.heap.size, 0, none⟩) 1 1) (.slice q (k + 1) d) w' ?hs ?hx ?hr ?_); (case hs => rfl); (case hx => rfl); (case hr => exact HR.out.1))
        go_roundw
        case rel => exact ⟨k + 1, q, d, by simp, rfl, by rw [H.out.2.2.2.2.1, if_neg (by omega), HF.out.1, Int.add_zero], by rw [H.out.2.2.2.1, HF.out.2]; simp, hlt, HR.out.2.1, HR.out.2.2⟩
        case measure => simp [intOf]; omega
    · obtain rfl : k = cutK raw := by omega
      have hend : ¬ (((cutK raw : Nat) : Int) < (raw.length : Int) ∧ ((cutK raw : Nat) : Int) < 12) := by unfold cutK; omega
      have HL := plTo_len raw (cutK raw)
      have HR : Hid (_ ∧ _ ∧ _) := ⟨ho, hb, HL⟩
      clear ho hb HL
      obtain ⟨F, hF⟩ : ∃ F, F = flw (plTo raw (cutK raw)) := ⟨_, rfl⟩
      obtain ⟨T, hT⟩ : ∃ T, T = tot (plTo raw (cutK raw)) := ⟨_, rfl⟩
      rw [← hF] at f1 f2 ⊢
      rw [← hT] at t1 t2 ⊢
      have HF : Hid (_ ∧ _) := ⟨hF, hT⟩
      clear hF hT
      have hF40 : F ≤ 40 := by omega
      obtain ⟨K, hK⟩ : ∃ K, K = cutK raw := ⟨_, rfl⟩
      rw [← hK] at hend hcut ⊢
      have HK : Hid _ := hK
      clear hK f2 t2
      have hmin : min F 40 = F := by omega
      rcases (by omega : (K : Int) < (raw.length : Int) ∧ ¬ (K : Int) < 12 ∨ ¬ (K : Int) < (raw.length : Int)) with ⟨h1, h2⟩ | h1
      all_goals
        go_wp2
        go_ret3
        have e1 : (partsL raw).length = K := by rw [HK.out]; exact HR.out.2.2
        have e2 : min (flw (partsL raw)) 40 = F := by rw [← hmin, HF.out.1]; rfl
        have e3 : tot (partsL raw) = T := by rw [HF.out.2]; rfl
        refine ⟨p', c', ?_, ?_, HR.out.2.1⟩
        · rw [e1, e2, e3]
          rfl
        · rw [e1, HK.out]
          exact HR.out.1
end Go.Proofs.Ytjkiahdeaeiopaa.Walks
