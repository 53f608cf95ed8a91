/-
  PickerPicks: picker.Pick answers as the document does, and changes nothing. Condition: the arguments are not more than a slice holds.
-/
import Derived.Test.YtjkiahdeaeiopaaRefPick
import Derived.Test.YtjkiahdeaeiopaaIntsC
import Derived.WalkKit
import Derived.ProofKit
import Derived.Handy
import Derived.LoopTactic
import Derived.Below
import Derived.Laws.BitsAllLaws
import Derived.RegionTactic
import Derived.Deep.RegionHeld3
import Derived.Deep.DrawnRows
import Derived.Deep.AppendLies
import Derived.Laws.OwnMore
import Derived.Deep.Onto
import Derived.Deep.QuietTactic
import Derived.BigQuiet
namespace Go.Proofs.Ytjkiahdeaeiopaa.Walks
open Go.RowKit
set_option linter.unusedVariables false
set_option linter.unusedSimpArgs false
attribute [local go_sem ↓] Go.wp_at_zero Go.wp_at_succ

set_option maxHeartbeats 4000000 in
theorem picks_law (w : World) (u : Value) (ws : List Int) (hu : IntsAt w u ws) (hwf : ∀ n ∈ ws, (Lit.int .i64 n).wf = true) (hn : ws.length ≤ 17592186044416) (v : Value) (l : List Ld) (hv : LdAt w v l) (hl : l.length ≤ 5864062014805) (a : Int) (wa : (Lit.int .i64 a).wf = true) (b : Int) (wb : (Lit.int .i64 b).wf = true) (c : Int) (wc : (Lit.int .i64 c).wf = true) (t : Int) (wt : (Lit.int .i64 t).wf = true) :
    Calls Try.prog 3 #[u, v, .int .i64 a, .int .i64 b, .int .i64 c, .int .i64 t] w fun r w' => r = .returned (.bool true) ∧ Below w.heap.size w w' := by
  obtain ⟨p, ca, rfl, _, _, _⟩ := hv.parts
  obtain ⟨pu, cu, rfl, _, _, _⟩ := hu.parts
  have HV : Hid (_ ∧ _ ∧ _ ∧ _) := ⟨hv, hl, hu, hn⟩
  clear hv hl hu hn hwf wa wb wc wt
  go_enter Try.func3, Try.ntmps3
  go_wp2_with fail
  refine (loads_any _ l _ HV.out.1 HV.out.2.1).mono ?_
  rintro r w1 ⟨y, rfl, ho1, hb1⟩
  obtain ⟨yp, yc, rfl⟩ := own_form ho1
  have H1 : Hid (LdAt w1 (.slice yp l.length yc) l ∧ LdAt w1 (.slice p l.length ca) l ∧ IntsAt w1 (.slice pu ws.length cu) ws ∧ _) := ⟨rowAt_own ho1, HV.out.1.below hb1, HV.out.2.2.1.below hb1, hb1⟩
  clear ho1 hb1
  go_wp2_with fail
  refine (ints_any _ ws _ H1.out.2.2.1 HV.out.2.2.2).mono ?_
  rintro r w2 ⟨z, rfl, ho2, hb2⟩
  obtain ⟨zp, zc, rfl⟩ := own_form ho2
  have H2 : Hid (LdAt w2 (.slice yp l.length yc) l ∧ LdAt w2 (.slice p l.length ca) l ∧ IntsAt w2 (.slice pu ws.length cu) ws ∧ IntsAt w2 (.slice zp ws.length zc) ws ∧ Below w.heap.size w w2) := ⟨H1.out.1.below hb2, H1.out.2.1.below hb2, H1.out.2.2.1.below hb2, own_ints ho2, H1.out.2.2.2.trans (hb2.mono H1.out.2.2.2.size)⟩
  clear ho2 hb2 H1
  go_wp2_with fail
  refine (pick_any _ _ ws l a b c t _ H2.out.2.2.2.1 H2.out.1).mono ?_
  obtain ⟨e1, he1⟩ : ∃ e1, e1 = (pickOut ws l a b c t).1 := ⟨_, rfl⟩
  obtain ⟨e2, he2⟩ : ∃ e2, e2 = (pickOut ws l a b c t).2 := ⟨_, rfl⟩
  rw [← he1, ← he2]
  have HO : Hid (_ ∧ _) := ⟨he1, he2⟩
  clear he1 he2
  rintro r w3 ⟨rfl, hb3⟩
  have H3 : Hid (LdAt w3 (.slice yp l.length yc) l ∧ LdAt w3 (.slice p l.length ca) l ∧ IntsAt w3 (.slice pu ws.length cu) ws ∧ IntsAt w3 (.slice zp ws.length zc) ws ∧ Below w.heap.size w w3) := ⟨H2.out.1.below hb3, H2.out.2.1.below hb3, H2.out.2.2.1.below hb3, H2.out.2.2.2.1.below hb3, H2.out.2.2.2.2.trans (hb3.mono H2.out.2.2.2.2.size)⟩
  clear hb3 H2
  go_wp2_with fail
  refine (picked_ref _ _ ws l a b c t _ H3.out.2.2.1 H3.out.2.1).mono ?_
  rw [← HO.out.1, ← HO.out.2]
  rintro r w4 ⟨rfl, hb4⟩
  have H4 : Hid (LdAt w4 (.slice yp l.length yc) l ∧ LdAt w4 (.slice p l.length ca) l ∧ IntsAt w4 (.slice pu ws.length cu) ws ∧ IntsAt w4 (.slice zp ws.length zc) ws ∧ Below w.heap.size w w4) := ⟨H3.out.1.below hb4, H3.out.2.1.below hb4, H3.out.2.2.1.below hb4, H3.out.2.2.2.1.below hb4, H3.out.2.2.2.2.trans (hb4.mono H3.out.2.2.2.2.size)⟩
  clear hb4 H3 HO
  go_wp2_with fail
  refine (sameLoads_any _ _ l _ H4.out.1 H4.out.2.1).mono ?_
  rintro r w5 ⟨rfl, hb5⟩
  have H5 : Hid (IntsAt w5 (.slice pu ws.length cu) ws ∧ IntsAt w5 (.slice zp ws.length zc) ws ∧ Below w.heap.size w w5) := ⟨H4.out.2.2.1.below hb5, H4.out.2.2.2.1.below hb5, H4.out.2.2.2.2.trans (hb5.mono H4.out.2.2.2.2.size)⟩
  clear hb5 H4
  go_wp2_with fail
  refine (lawInts _ _ ws _ H5.out.2.1 H5.out.1).mono ?_
  rintro r w6 ⟨rfl, hb6⟩
  have H6 : Hid _ := H5.out.2.2.trans (hb6.mono H5.out.2.2.size)
  clear hb6
  go_wp2
  go_ret
  exact ⟨rfl, H6.out⟩
end Go.Proofs.Ytjkiahdeaeiopaa.Walks
