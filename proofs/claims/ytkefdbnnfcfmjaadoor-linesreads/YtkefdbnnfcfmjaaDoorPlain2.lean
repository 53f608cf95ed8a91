/-
  An event made out of its kind's numbers, in plain mathematics: it is the event itself just where nothing beside the fields is set. No condition.
-/
import Derived.Test.YtkefdbnnfcfmjaaDoorPlain
namespace Go.Proofs.YtkefdbnnfcfmjaaDoor.Plain

def puts : Ev → List Fld → List Int → Ev
  | e, f :: fs, n :: ns => puts (e.put f.off n) fs ns
  | e, _, _ => e

def Ev.nums (e : Ev) (fs : List Fld) : List Int := fs.map fun f => e.num f.off

theorem puts_clean (e : Ev) (fs : List Fld) (h : flds e.kind = some fs) (hw : fs.all e.within = true) :
    decide (puts { Ev.zero with kind := e.kind } fs (e.nums fs) = e) = e.clean fs := by
  obtain ⟨k, key, slot, gen, good, req, be, wt⟩ := e
  dsimp only at h
  rcases flds_cases k with ⟨_, h'⟩ | rfl | rfl | rfl | rfl | rfl | rfl | rfl
  · rw [h'] at h; cases h
  all_goals
    unfold flds at h
    simp at h
    subst h
    cases good <;> simp [puts, Ev.nums, Ev.num, Ev.put, Ev.clean, Ev.clear, Ev.zero, eq_comm]

end Go.Proofs.YtkefdbnnfcfmjaaDoor.Plain
