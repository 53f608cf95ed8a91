/-
  The program's fill: the fields that are pointed at, filled with the first of these parts. Condition: the words, the table of powers of ten and the two errors are as their initialisers lay them.
-/
import Derived.Test.YtkefdbnnfcfmjaaDoorRd0
import Derived.WalkKit
import Derived.ProofKit
import Derived.Handy
import Derived.LoopTactic
import Derived.Below
import Derived.Laws.BitsAllLaws
import Derived.RegionTactic
import Derived.Deep.RegionHeld3
import Derived.Deep.DrawnRows
import Derived.Deep.AppendLies
import Derived.Laws.OwnMore
import Derived.Deep.Onto
import Derived.Deep.QuietTactic
import Derived.BigQuiet
namespace Go.Proofs.YtkefdbnnfcfmjaaDoor.Walks
open Go.RowKit
open Go.Proofs.YtkefdbnnfcfmjaaDoor.Plain
set_option linter.unusedVariables false
set_option linter.unusedSimpArgs false
attribute [local go_sem ↓] Go.wp_at_zero Go.wp_at_succ

theorem arr_put {e : Ev} {o : Nat} {n : Int} (h1 : 1 ≤ o) (h7 : o ≤ 7) (h4 : o ≠ 4) : (arr e).setIfInBounds o (.int .i64 n) = arr (e.put o n) := by
  have : o = 1 ∨ o = 2 ∨ o = 3 ∨ o = 5 ∨ o = 6 ∨ o = 7 := by omega
  rcases this with rfl | rfl | rfl | rfl | rfl | rfl <;> rfl

theorem EvAt.set {w : World} {b : Nat} {e : Ev} (h : EvAt w b e) {o : Nat} (h1 : 1 ≤ o) (h7 : o ≤ 7) (h4 : o ≠ 4) (n : Int) : EvAt (w.setCell ⟨b, o, none⟩ (.int .i64 n)) b (e.put o n) := by
  have h' : w.heap[b]? = some (.cells (arr e) 34) := h
  unfold EvAt
  simp only [World.setCell, Array.getElem?_modify, h', if_true, Option.map_some]
  simp [arr_put h1 h7 h4]

theorem grown_set (w : World) (b o : Nat) (v : Value) : w.grownBy (w.setCell ⟨b, o, none⟩ v) (some b) :=
  ⟨rfl, rfl, rfl, by simp [World.setCell], fun k hk hne => Below.heap_setCell _ _ _ _ (fun h => hne (by rw [h]))⟩

theorem fillP_step {os : List Nat} {ps : List (List UInt8)} {k : Nat} {e : Ev} (hk : k < os.length) (hp : k < ps.length) :
    fillP (os.drop k) (ps.drop k) e = match Lib.atoiAll ps[k] with | .ok n => fillP (os.drop (k + 1)) (ps.drop (k + 1)) (e.put os[k] n) | _ => none := by
  rw [List.drop_eq_getElem_cons hk, List.drop_eq_getElem_cons hp, fillP]
  split <;> rename_i h <;> simp_all

theorem fillP_few : ∀ (os : List Nat) (ps : List (List UInt8)) (e : Ev), ps.length < os.length → fillP os ps e = none
  | [], ps, e, h => by simp at h
  | o :: os, [], e, _ => rfl
  | o :: os, p :: ps, e, h => by
    rw [fillP]
    split
    · exact fillP_few os ps _ (by simpa using h)
    · rfl

def FillPost (os : List Nat) (ps : List (List UInt8)) (e : Ev) (b : Nat) (w : World) (r : Ending) (w' : World) : Prop :=
  r = .returned (.bool (fillP os ps e).isSome) ∧ (∀ x, fillP os ps e = some x → EvAt w' b x) ∧ w.grownBy w' (some b)

set_option maxHeartbeats 1000000 in
theorem fill_any (os : List Nat) (ps : List (List UInt8)) (e : Ev) (b base : Nat) (v u : Value) (w : World) (hG : Gr w) (hv : PtAt w base b v os) (hbb : b < base) (hb9 : 9 ≤ b) (hu : StrsAt w u ps) (hub : ∀ x, u.ownBlock = some x → x ≠ b) (hE : EvAt w b e) (hos : ∀ o ∈ os, 1 ≤ o ∧ o ≤ 7 ∧ o ≠ 4) (hlen : ∀ p ∈ ps, p.length ≤ 200000) :
    Calls Tryd.prog 44 #[v, u] w (FillPost os ps e b w) := by
  obtain ⟨a, cap, rfl, hat⟩ := hv
  obtain ⟨g, off, cap2, rfl, hc2, hc3, hgl, hcell⟩ := hu
  have hgb : g ≠ b := hub g rfl
  have HH : Hid (_ ∧ _ ∧ _ ∧ _ ∧ _) := ⟨hat, hcell, hos, hlen, hG⟩
  clear hat hcell hos hlen hG hub
  by_cases hfew : ps.length < os.length
  · have hf' : (ps.length : Int) < (os.length : Int) := by omega
    have HF : Hid (fillP os ps e = none) := fillP_few os ps e hfew
    go_enter Tryd.func44, Tryd.ntmps44
    go_wp2
    go_ret
    refine ⟨by rw [HF.out]; rfl, fun x hx => ?_, ⟨rfl, rfl, rfl, Nat.le_refl _, fun _ _ _ => rfl⟩⟩
    rw [HF.out] at hx; cases hx
  · have hf' : ¬ (ps.length : Int) < (os.length : Int) := by omega
    go_enter Tryd.func44, Tryd.ntmps44
    go_wp2
    go_loopw [15] (fun i wr => ∃ (k : Nat) (x : Ev), k ≤ os.length ∧ i = .int .i64 k ∧ fillP os ps e = fillP (os.drop k) (ps.drop k) x ∧ EvAt wr b x ∧ w.grownBy wr (some b)) (fun i _ => os.length - (intOf i).toNat)
    case atStart => exact ⟨0, e, Nat.zero_le _, rfl, rfl, hE, ⟨rfl, rfl, rfl, Nat.le_refl _, fun _ _ _ => rfl⟩⟩
    case round =>
      obtain ⟨k, x, hk, rfl, hfl, hEx, hg⟩ := hrel
      by_cases hlt : k < os.length
      · have hp : k < ps.length := by omega
        obtain ⟨g', rfl, g1, g2, c0⟩ := HH.out.1 k os[k] (List.getElem?_eq_getElem hlt)
        have ho := HH.out.2.2.1 os[k] (List.getElem_mem hlt)
        have hl := HH.out.2.2.2.1 ps[k] (List.getElem_mem hp)
        have c1 := HH.out.2.1 k ps[k] (List.getElem?_eq_getElem hp)
        rw [← hg.cell_far ⟨g', k, none⟩ g2 (by simp; omega)] at c0
        rw [← hg.cell_far ⟨g, off + k, none⟩ hgl (by simpa using hgb)] at c1
        have hstep := fillP_step (e := x) hlt hp
        rw [← hfl] at hstep
        have HT := Lib.hid (And.intro hstep ho)
        clear hstep hfl ho
        generalize os[k] = o at *
        generalize ps[k] = p at *
        have hsz := hg.size
        go_wp2_with fail
        refine (atoi_any p (by omega) wr (HH.out.2.2.2.2.grown hg hb9)).mono ?_
        rintro r w1 ⟨hb1, h1 | ⟨hno, n, t, q, rfl⟩⟩
        · obtain ⟨n, hn, rfl⟩ := h1
          have hE1 := hEx.below hb1 hEx.lt
          have eo := ev_num hE1 HT.out.2.1 HT.out.2.2.1 HT.out.2.2.2; have fo := hE1.frozen o
          have HN := Lib.hid hn
          clear hn
          go_wp2
          go_roundw
          case rel =>
            refine ⟨k + 1, x.put o n, by omega, by go_num, ?_, hE1.set HT.out.2.1 HT.out.2.2.1 HT.out.2.2.2 n, ?_⟩
            · rw [HT.out.1, HN.out]
            · exact grown_trans (grown_trans hg (grown_of_below hb1)) (grown_set _ _ _ _)
          case measure => simp [intOf]; omega
        · have hE1 := hEx.below hb1 hEx.lt
          have eo := ev_num hE1 HT.out.2.1 HT.out.2.2.1 HT.out.2.2.2; have fo := hE1.frozen o
          have HN := Lib.hid hno
          clear hno
          go_wp2
          go_ret
          have hnone : fillP os ps e = none := by
            rw [HT.out.1]
            cases hx : Lib.atoiAll p with
            | ok m => exact absurd hx (HN.out m)
            | «syntax» => rfl
            | range => rfl
          refine ⟨by rw [hnone]; rfl, fun y hy => ?_, grown_trans (grown_trans hg (grown_of_below hb1)) (grown_set _ _ _ _)⟩
          rw [hnone] at hy; cases hy
      · have : k = os.length := by omega
        subst this
        rw [List.drop_length] at hfl
        have hfl' : fillP os ps e = some x := by rw [hfl]; cases (ps.drop os.length) <;> rfl
        have HT := Lib.hid hfl'
        clear hfl hfl'
        go_wp2
        go_ret
        refine ⟨by rw [HT.out]; rfl, fun y hy => ?_, hg⟩
        rw [HT.out] at hy; cases hy; exact hEx
end Go.Proofs.YtkefdbnnfcfmjaaDoor.Walks
