/-
  LinesFixed: what is read is shown as it was. Condition: the words, the table of powers of ten and the two errors are as their initialisers lay them.
-/
import Derived.Test.YtcjgokgembgdhaaDoorRdd
import Derived.WalkKit
import Derived.ProofKit
import Derived.Handy
import Derived.LoopTactic
import Derived.Below
import Derived.Laws.BitsAllLaws
import Derived.RegionTactic
import Derived.Deep.RegionHeld3
import Derived.Deep.DrawnRows
import Derived.Deep.AppendLies
import Derived.Laws.OwnMore
import Derived.Deep.Onto
import Derived.Deep.QuietTactic
import Derived.BigQuiet
namespace Go.Proofs.YtcjgokgembgdhaaDoor.Walks
open Go.RowKit
open Go.Proofs.YtcjgokgembgdhaaDoor.Plain
set_option linter.unusedVariables false
set_option linter.unusedSimpArgs false
attribute [local go_sem ↓] Go.wp_at_zero Go.wp_at_succ

set_option maxHeartbeats 1000000 in
theorem fixed_law (s : ByteArray) (w : World) (hG : Gr w) : Calls Tryd.prog 6 #[.string s] w fun r w' => r = .returned (.bool true) ∧ Below w.heap.size w w' := by
  have h9 := hG.1.2.2
  have HG := Lib.hid hG
  clear hG
  go_enter Tryd.func6, Tryd.ntmps6
  go_wp2_with fail
  refine (read_any s w HG.out).mono ?_
  rintro r w1 ⟨hb1, ⟨c, p, hr, rfl⟩ | ⟨l, v, hr, rfl, ho⟩⟩
  · have hcp : p ≤ 4000 ∧ c ≠ 0 := by
      unfold readT at hr
      split at hr
      · simp at hr; omega
      · obtain ⟨h1, h2 | h2⟩ := readF_err _ _ _ _ _ hr (by omega)
        · exact ⟨h1, by omega⟩
        · exact ⟨h1, by omega⟩
    have hc0 : (c == 0) = false := beq_eq_false_iff_ne.2 hcp.2
    have hp1 : (0 : Int) ≤ (p : Int) := by omega
    have hp2 : (p : Int) ≤ 4000 := by omega
    have HB := Lib.hid hb1
    clear hr hcp
    go_wp2
    go_ret
    exact ⟨rfl, HB.out⟩
  · obtain ⟨h1, h2, h3⟩ := shown_read hr
    obtain ⟨vp, vc, rfl⟩ := Rv.own_form ho
    have hv : EsAt w1 (.slice vp l.length vc) l := Rv.rvAt_own ho
    have hsr := showR_ok h2 h3
    have HS := Lib.hid (And.intro hv (And.intro hsr (And.intro h1 hb1)))
    clear hv hsr h1 hr ho h2
    go_wp2_with fail
    refine (show_any _ l w1 (HG.out.1.below HS.out.2.2.2 h9) HS.out.1).mono ?_
    rintro r w2 ⟨rfl, hb2⟩
    rw [HS.out.2.1]
    have hs : (⟨(shown l).toArray⟩ : ByteArray) = s := by rw [HS.out.2.2.1]
    unfold trip
    dsimp only
    rw [hs]
    have HB := Lib.hid (HS.out.2.2.2.trans (hb2.mono HS.out.2.2.2.size))
    clear hs
    go_wp2
    go_ret
    exact ⟨rfl, HB.out⟩
end Go.Proofs.YtcjgokgembgdhaaDoor.Walks
