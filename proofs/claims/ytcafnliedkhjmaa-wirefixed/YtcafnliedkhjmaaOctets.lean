/-
  The statements' own octets copies a slice of bytes. Condition: the slice can be read, and is of at most 2^47 - 4096 bytes.
-/
import Derived.Test.YtcafnliedkhjmaaRows
import Derived.Test.YtcafnliedkhjmaaChecked
import Derived.Test.YtcafnliedkhjmaaDecode
import Derived.Deep.QuietTactic
import Derived.BigQuiet
import Derived.WalkKit
import Derived.ProofKit
import Derived.Handy
import Derived.LoopTactic
import Derived.Below
import Derived.Laws.BitsAllLaws
import Derived.RegionTactic
import Derived.Deep.RegionHeld3
import Derived.Deep.DrawnRows
import Derived.Deep.AppendLies
import Derived.Laws.OwnMore
import Derived.Deep.Onto
namespace Go.Proofs.Ytcafnliedkhjmaa.Walks
open Go.RowKit
open Go.Proofs.Ytcafnliedkhjmaa.Plain
set_option linter.unusedVariables false
attribute [local go_sem ↓] Go.wp_at_zero Go.wp_at_succ


theorem add_none (b off j : Nat) : (⟨b, off, none⟩ : Addr).add j = ⟨b, off + j, none⟩ := by unfold Addr.add; split <;> simp_all

set_option maxHeartbeats 400000 in
theorem octets_any (v : Value) (l : List Nat) (w : World) (hv : BytesAt w v l) (hl : l.length ≤ 140737488351232) :
    Calls Try.prog 14 #[v] w fun r w' => ∃ v', r = .returned v' ∧ w'.ownsRow w.heap.size 5 1 v' l.length (bcells l) ∧ Below w.heap.size w w' := by
  obtain ⟨i0, hi, hz0, hz1, hz2⟩ := info_parts Try.info5
  obtain ⟨a, cap, rfl, hc, h⟩ := hv
  by_cases hl0 : l = []
  · subst hl0
    clear h
    cases a
    all_goals
      go_enter Try.func14, Try.ntmps14
      go_wp2
      go_ret
      exact ⟨_, rfl, World.ownsRow_nil _ _ _ _, Below.refl _ _⟩
  · rcases h with ⟨_, h⟩ | h | ⟨b, off, rfl, hb, hcell⟩
    · exact absurd h hl0
    · exact absurd h hl0
    · have hnews : ∀ j u, (bcells l)[j]? = some u → w.cell? ((⟨b, off, none⟩ : Addr).add j) = some u := by
        intro j u hj
        have hjl : j < l.length := by
          rcases Nat.lt_or_ge j l.length with h | h
          · exact h
          · rw [List.getElem?_eq_none (by simpa [bcells] using h)] at hj; cases hj
        rw [add_none, hcell j hjl, ← hj]
        simp [bcells, List.getElem?_map, List.getElem?_eq_getElem hjl, List.getD]
      have HN : Hid _ := hnews
      clear hnews hcell
      go_enter Try.func14, Try.ntmps14
      go_wp2_with (at_builtin; refine wpList_append_own _ rfl _ _ 27 rfl w.heap.size 5 i0 (.int .u8 0) 1 1 Try.underlying27 hi hz0 hz1 hz2 rfl (by decide) _ 0 [] rfl (World.ownsRow_nil _ _ _ _) ⟨b, off, none⟩ l.length cap (bcells l) rfl (by simp [bcells]) HN.out (bcells_one _) (by unfold maxLen; omega) (by omega) (Nat.le_refl _) ?_)
      intro v' w1 hown' hgrow _
      go_wp2
      go_ret
      refine ⟨_, rfl, by simpa using hown', (Below.refl _ _).grown hgrow (Nat.le_refl _) (fun k hk => by cases hk)⟩
end Go.Proofs.Ytcafnliedkhjmaa.Walks
