/-
  The program's Show: what it answers, whatever the events. Condition: the words and the table of powers of ten are as their initialisers lay them.
-/
import Derived.Test.YtkefdbnnfcfmjaaDoorLo
import Derived.Test.YtkefdbnnfcfmjaaDoorWb
import Derived.Test.YtkefdbnnfcfmjaaDoorRvRv
import Derived.WalkKit
import Derived.ProofKit
import Derived.Handy
import Derived.LoopTactic
import Derived.Below
import Derived.Laws.BitsAllLaws
import Derived.RegionTactic
import Derived.Deep.RegionHeld3
import Derived.Deep.DrawnRows
import Derived.Deep.AppendLies
import Derived.Laws.OwnMore
import Derived.Deep.Onto
import Derived.Deep.QuietTactic
import Derived.BigQuiet
namespace Go.Proofs.YtkefdbnnfcfmjaaDoor.Walks
open Go.RowKit
open Go.Proofs.YtkefdbnnfcfmjaaDoor.Plain
set_option linter.unusedVariables false
set_option linter.unusedSimpArgs false
attribute [local go_sem ↓] Go.wp_at_zero Go.wp_at_succ

/-- An event's cells. -/
def evV (e : Ev) : List Value := [.int .i64 e.kind, .int .i64 e.key, .int .i64 e.slot, .int .i64 e.gen, .bool e.good, .int .i64 e.req, .int .i64 e.be, .int .i64 e.wt]
theorem ev8 (e : Ev) : (evV e).length = 8 := rfl
theorem ev1 (e : Ev) : ∀ u ∈ evV e, u.oneCell' = true := by
  intro u hu
  simp only [evV, List.mem_cons, List.mem_nil_iff, or_false] at hu
  rcases hu with rfl | rfl | rfl | rfl | rfl | rfl | rfl | rfl <;> rfl
/-- A slice of events that can be read. -/
abbrev EsAt (w : World) (v : Value) (l : List Ev) : Prop := Rv.RvAt evV w v l
theorem infoEv : (Tryd.prog.info? 34).map (fun i => (i.zero, i.size, i.bytes)) = some (some (.agg #[.int .i64 0, .int .i64 0, .int .i64 0, .int .i64 0, .bool false, .int .i64 0, .int .i64 0, .int .i64 0]), 8, 64) := by kernel_rfl

theorem take_next {l : List Ev} {k : Nat} (h : k < l.length) : l.take (k + 1) = l.take k ++ [l[k]] := List.take_succ_eq_append_getElem h

theorem own_kept {base n k : Nat} {e : TypeId} {v : Value} {cs : List Value} {w w' : World} (h : w.ownsRow base e k v n cs) (hb : Below w.heap.size w w') : w'.ownsRow base e k v n cs := by
  obtain ⟨h1, h | ⟨g, cap, cur, h2, h3, h4, h5⟩⟩ := h
  · exact ⟨h1, .inl h⟩
  · have hlt : g < w.heap.size := by
      rcases Nat.lt_or_ge g w.heap.size with h' | h'
      · exact h'
      · simp [Array.getElem?_eq_none h'] at h4
    exact ⟨h1, .inr ⟨g, cap, cur, h2, h3, by rw [hb.block g hlt]; exact h4, h5⟩⟩

theorem isB_below {T e : TypeId} {B b : Nat} {bs : List Value} {w w' : World} (h : Lib.IsBuilder T e B b bs w) (hb : Below w.heap.size w w') : Lib.IsBuilder T e B b bs w' := by
  have one : ∀ p, Lib.BuilderAt T e B b p bs w → Lib.BuilderAt T e B b p bs w' := by
    rintro p ⟨h1, v, h2, h3, h4⟩
    have hlt : b < w.heap.size := by
      rcases Nat.lt_or_ge b w.heap.size with h' | h'
      · exact h'
      · simp [Array.getElem?_eq_none h'] at h2
    exact ⟨h1, v, by rw [hb.block b hlt]; exact h2, own_kept h3 hb, h4⟩
  exact h.imp (one _) (one _)

def trip (x : List UInt8 × Int × Int) : Value := .tuple #[.string ⟨x.1.toArray⟩, .int .i64 x.2.1, .int .i64 x.2.2]

set_option maxHeartbeats 1000000 in
theorem show_any (v : Value) (l : List Ev) (w : World) (hG : Gs w) (hv : EsAt w v l) :
    Calls Tryd.prog 10 #[v] w fun r w' => r = .returned (trip (showR l)) ∧ Below w.heap.size w w' := by
  obtain ⟨a, cap, rfl, hc, hm, hat⟩ := Rv.RvAt.parts ev8 hv
  have h9 := hG.2.2
  have HV : Hid (_ ∧ _) := ⟨hat, hG⟩
  clear hat hv hG
  by_cases hbig : 4000 < l.length
  · have hb' : (4000 : Int) < (l.length : Int) := by omega
    have HS : Hid (showR l = ([], 0, 1)) := by unfold Hid showR; rw [if_pos hbig]
    go_enter Tryd.func10, Tryd.ntmps10
    go_wp2
    refine bodyPost_ret (v := .tuple #[.string ⟨#[]⟩, .int .i64 0, .int .i64 1]) (by simp [results, Tryd.results10, go_sem]) rfl ?_
    exact ⟨by rw [HS.out]; rfl, Below.refl _ _⟩
  · have hb' : ¬ (4000 : Int) < (l.length : Int) := by omega
    have HS : Hid (showR l = showB l (badAt 0 l)) := by unfold Hid showR; rw [if_neg hbig]
    go_enter Tryd.func10, Tryd.ntmps10
    go_wp2
    have hB0 := Lib.fresh_isBuilder 46 5 w
    go_loopw [14] (fun i wr => ∃ k : Nat, k ≤ l.length ∧ i = .int .i64 k ∧ badAt 0 l = badAt k (l.drop k) ∧ (∀ e ∈ l.take k, fault e = 0) ∧ Lib.IsBuilder 46 5 w.heap.size w.heap.size (Lib.byteCells (shown (l.take k))) wr ∧ Below w.heap.size w wr ∧ w.heap.size < wr.heap.size) (fun i _ => l.length - (intOf i).toNat)
    case atStart => exact ⟨0, Nat.zero_le _, rfl, rfl, by simp, hB0, (Below.refl _ _).alloc (Nat.le_refl _) _, by simp⟩
    case round =>
      obtain ⟨k, hk, rfl, hbad, hall, hI, hbel, hsz⟩ := hrel
      by_cases hlt : k < l.length
      · obtain ⟨b, off, rfl, hb, hcell⟩ := HV.out.1 k hlt
        have hcc : ∀ j, j < 8 → wr.cell? ⟨b, off + k * 8 + j, none⟩ = (evV l[k])[j]? := fun j hj => by rw [hbel.cell (p := ⟨b, off + k * 8 + j, none⟩) hb]; exact hcell j hj
        have c0 : wr.cell? ⟨b, off + k * 8, none⟩ = some (.int .i64 l[k].kind) := hcc 0 (by omega)
        have c1 : wr.cell? ⟨b, off + k * 8 + 1, none⟩ = some (.int .i64 l[k].key) := hcc 1 (by omega)
        have c2 : wr.cell? ⟨b, off + k * 8 + 2, none⟩ = some (.int .i64 l[k].slot) := hcc 2 (by omega)
        have c3 : wr.cell? ⟨b, off + k * 8 + 3, none⟩ = some (.int .i64 l[k].gen) := hcc 3 (by omega)
        have c4 : wr.cell? ⟨b, off + k * 8 + 4, none⟩ = some (.bool l[k].good) := hcc 4 (by omega)
        have c5 : wr.cell? ⟨b, off + k * 8 + 5, none⟩ = some (.int .i64 l[k].req) := hcc 5 (by omega)
        have c6 : wr.cell? ⟨b, off + k * 8 + 6, none⟩ = some (.int .i64 l[k].be) := hcc 6 (by omega)
        have c7 : wr.cell? ⟨b, off + k * 8 + 7, none⟩ = some (.int .i64 l[k].wt) := hcc 7 (by omega)
        have hdrop : l.drop k = l[k] :: l.drop (k + 1) := List.drop_eq_getElem_cons hlt
        have HT : Hid (_ ∧ _ ∧ _ ∧ _ ∧ _) := ⟨hbad, hall, hI, hdrop, take_next hlt⟩
        clear hbad hall hI hdrop hcc hcell
        generalize l[k] = e at *
        go_wp2_with fail
        refine (check_any e _).mono ?_
        rintro r w1 ⟨rfl, hb1⟩
        have hB1 : Below w.heap.size w w1 := (hbel.alloc (by omega) _).trans (hb1.mono (by simp; omega))
        have hE1 : EvAt w1 wr.heap.size e := EvAt.below (heap_new wr _) hb1 (by simp)
        have hIs : Lib.IsBuilder 46 5 w.heap.size w.heap.size (Lib.byteCells (shown (l.take k))) w1 := isB_below (isB_below HT.out.2.2.1 ((Below.refl _ _).alloc (Nat.le_refl _) _)) hb1
        obtain ⟨e0, e1, e2, e3, e4, e5, e6, e7⟩ := hE1.all
        have HI := Lib.hid hIs
        clear hIs
        by_cases hf : fault e = 0
        · rw [hf]
          have HF := Lib.hid hf
          clear hf
          go_wp2_with fail
          refine (line_any e w1 (HV.out.2.below hB1 h9) HF.out).mono ?_
          rintro r w2 ⟨rfl, hb2⟩
          have hIs2 := isB_below HI.out hb2
          have hlen := shown_len _ HT.out.2.1
          have hln := line_len HF.out
          have hkl : (l.take k).length ≤ 4000 := by rw [List.length_take]; omega
          go_wp2_with fail
          refine (write_any w.heap.size w.heap.size _ ⟨(lineB e).toArray⟩ w2 hIs2 (by rw [Lib.byteCells_length]; simp [ByteArray.size]; omega) (hB1.trans (hb2.mono hB1.size)).size).mono ?_
          rintro r w3 ⟨rfl, hB3, hb3⟩
          go_wp2
          go_roundw
          case rel =>
            refine ⟨k + 1, by omega, by go_num, ?_, ?_, ?_, (hB1.trans (hb2.mono hB1.size)).trans hb3, ?_⟩
            · rw [HT.out.1, HT.out.2.2.2.1, badAt, if_pos HF.out]
            · intro x hx
              rw [HT.out.2.2.2.2] at hx
              rcases List.mem_append.1 hx with hx | hx
              · exact HT.out.2.1 x hx
              · simp at hx; subst hx; exact HF.out
            · rw [HT.out.2.2.2.2]
              have : shown (l.take k ++ [e]) = shown (l.take k) ++ lineB e := by simp [shown]
              rw [this, Lib.byteCells_append]
              exact .inr hB3
            · have h1 := hb1.size; have h2 := hb2.size; have h3 := hb3.size; simp at h1; omega
          case measure => simp [intOf]; omega
        · have hne : (fault e == 0) = false := beq_eq_false_iff_ne.2 hf
          have HF := Lib.hid hf
          clear hf
          go_wp2
          refine bodyPost_ret (v := .tuple #[.string ⟨#[]⟩, .int .i64 k, .int .i64 (fault e)]) (by simp [results, Tryd.results10, go_sem]) rfl ?_
          refine ⟨?_, hB1⟩
          rw [HS.out, HT.out.1, HT.out.2.2.2.1, badAt, if_neg HF.out]; rfl
      · have : k = l.length := by omega
        subst this
        rw [List.take_length] at hall hI
        rw [List.drop_length] at hbad
        have HT : Hid (_ ∧ _) := ⟨hbad, hall⟩
        clear hbad hall
        go_wp2_with fail
        refine (Tryd.Builder_String_any w.heap.size w.heap.size (shown l) wr hI hbel.size).mono ?_
        rintro r w1 ⟨rfl, hb1⟩
        go_wp2
        refine bodyPost_ret (v := .tuple #[.string ⟨(shown l).toArray⟩, .int .i64 0, .int .i64 0]) (by simp [results, Tryd.results10, go_sem]) rfl ?_
        exact ⟨by rw [HS.out, HT.out.1]; rfl, hbel.trans hb1⟩
end Go.Proofs.YtkefdbnnfcfmjaaDoor.Walks
