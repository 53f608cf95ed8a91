/-
  Memory of a table behind some acts: the table's box and four rows, each in a block of its own. Conditions: they lie there.
-/
import Derived.Test.YthiojfgimjoenaaSeatP
import Derived.Deep.AppendLies
import Derived.WalkKit
import Derived.ProofKit
import Derived.Handy
import Derived.LoopTactic
import Derived.Below
import Derived.Laws.BitsAllLaws
import Derived.RegionTactic
import Derived.Deep.RegionHeld3
import Derived.Deep.DrawnRows
import Derived.Laws.OwnMore
import Derived.Deep.Onto
import Derived.Deep.QuietTactic
import Derived.BigQuiet
namespace Go.Proofs.Ythiojfgimjoenaa.Walks
open Go.RowKit
set_option linter.unusedVariables false
set_option linter.unusedSimpArgs false
attribute [local go_sem ↓] Go.wp_at_zero Go.wp_at_succ

def bcells (l : List Bool) : List Value := l.map Value.bool

theorem bcells_append (a b : List Bool) : bcells (a ++ b) = bcells a ++ bcells b := by simp [bcells]

theorem bcells_len (a : List Bool) : (bcells a).length = a.length := by simp [bcells]

theorem bcells_one (a : List Bool) : ∀ v ∈ bcells a, v.oneCell' = true := by
  intro v hv
  obtain ⟨x, _, rfl⟩ := List.mem_map.1 hv
  rfl

theorem infoBool : (Try.prog.info? 4).map (fun i => (i.zero, i.size, i.bytes)) = some (some (.bool false), 1, 1) := by kernel_rfl

def hsE (E : List En) : List Tm := E.map fun e => e.1
def gdE (E : List En) : List Bool := E.map fun e => e.2.1
def atE (E : List En) : List Int := E.map fun e => e.2.2

theorem hsE_len (E : List En) : (hsE E).length = E.length := by simp [hsE]
theorem gdE_len (E : List En) : (gdE E).length = E.length := by simp [gdE]
theorem atE_len (E : List En) : (atE E).length = E.length := by simp [atE]

def Apart (a b : Option Nat) : Prop := ∀ g, a = some g → b ≠ some g

theorem Apart.symm {a b : Option Nat} (h : Apart a b) : Apart b a := fun g hb ha => h g ha hb

structure Rws (B g9 : Nat) (vT vH vG vA : Value) (T : List Sl) (E : List En) (w : World) : Prop where
  box : w.heap[g9]? = some (.cells #[vT] 24 (0, 0))
  rT : w.ownsRow B 44 4 vT T.length (scells T)
  rH : w.ownsRow B 42 2 vH E.length (tcells (hsE E))
  rG : w.ownsRow B 4 1 vG E.length (bcells (gdE E))
  rA : w.ownsRow B 3 1 vA E.length (icells (atE E))
  dT : Apart vT.ownBlock (some g9)
  dH : Apart vH.ownBlock (some g9)
  dG : Apart vG.ownBlock (some g9)
  dA : Apart vA.ownBlock (some g9)
  dTH : Apart vT.ownBlock vH.ownBlock
  dTG : Apart vT.ownBlock vG.ownBlock
  dTA : Apart vT.ownBlock vA.ownBlock
  dHG : Apart vH.ownBlock vG.ownBlock
  dHA : Apart vH.ownBlock vA.ownBlock
  dGA : Apart vG.ownBlock vA.ownBlock
  big : B ≤ w.heap.size

section
variable {B g9 : Nat} {vT vH vG vA : Value} {T : List Sl} {E : List En} {w w' : World}

theorem Rws.lt (h : Rws B g9 vT vH vG vA T E w) : g9 < w.heap.size := (Array.getElem?_eq_some_iff.1 h.box).1

theorem Rws.below (h : Rws B g9 vT vH vG vA T E w) (hb : Below w.heap.size w w') : Rws B g9 vT vH vG vA T E w' :=
  ⟨box_below h.box hb, own_grownW h.rT hb, own_grownW h.rH hb, own_grownW h.rG hb, own_grownW h.rA hb, h.dT, h.dH, h.dG, h.dA, h.dTH, h.dTG, h.dTA, h.dHG, h.dHA, h.dGA, Nat.le_trans h.big hb.size⟩

theorem apart_lt {v : Value} {k n : Nat} {e : TypeId} {b sz : Nat} {xs : List Value} (h : w.ownsRow b e sz v n xs) (hk : w.heap.size ≤ k) : Apart v.ownBlock (some k) := fun g hg he => by
  injection he with he
  have := (h.lt g hg).2
  omega

theorem apart_new {v u : Value} {n m : Nat} {e f : TypeId} {b sz sy : Nat} {xs ys : List Value} {w2 : World} (h : w.ownsRow b e sz v n xs) (hu : w2.ownsRow w.heap.size f sy u m ys) : Apart u.ownBlock v.ownBlock := fun g hg he => by
  have h1 := (h.lt g he).2
  have h2 := (hu.lt g hg).1
  omega

theorem own_set {b sz n : Nat} {e : TypeId} {v u : Value} {xs : List Value} {g o : Nat} (h : w.ownsRow b e sz v n xs) (hne : Apart v.ownBlock (some g)) : (w.setCell ⟨g, o, none⟩ u).ownsRow b e sz v n xs :=
  own_block h fun k hk => Below.heap_setCell _ _ _ _ (by
    have := hne k hk
    simp at this ⊢
    omega)

theorem box_set {u v : Value} (h : w.heap[g9]? = some (.cells #[v] 24 (0, 0))) : (w.setCell ⟨g9, 0, none⟩ u).heap[g9]? = some (.cells #[u] 24 (0, 0)) := by
  have := heap_setCell_same w g9 0 _ _ u h
  simpa using this

/-- Another table in the box. -/
theorem Rws.table (h : Rws B g9 vT vH vG vA T E w) {u : Value} {T' : List Sl} {W : World} (hW : Rws B g9 vT vH vG vA T E W) (hb : Below W.heap.size W w) (hu : w.ownsRow W.heap.size 44 4 u T'.length (scells T')) : Rws B g9 u vH vG vA T' E (w.setCell ⟨g9, 0, none⟩ u) := by
  have hug : Apart u.ownBlock (some g9) := fun g hg he => by
    injection he with he
    have := (hu.lt g hg).1
    have := hW.lt
    omega
  exact ⟨box_set h.box, own_set (hu.mono hW.big) hug, own_set h.rH h.dH, own_set h.rG h.dG, own_set h.rA h.dA, hug, h.dH, h.dG, h.dA, apart_new hW.rH hu, apart_new hW.rG hu, apart_new hW.rA hu, h.dHG, h.dHA, h.dGA, by simpa using h.big⟩

end

/-- What an append leaves: the run, the row, who else stays. -/
theorem append_k {w : World} {B : Nat} {t e : TypeId} {sz by_ : Nat} {z : Value} (ht : Try.prog.underlying t = some (.slice e)) (hinfo : (Try.prog.info? e).map (fun i => (i.zero, i.size, i.bytes)) = some (some z, sz, by_)) (hz : z.cells.size = sz) (hsz : 0 < sz) (hby : by_ ≤ 1000) {p : Option Addr} {n c : Nat} {xs news : List Value} (ho : w.ownsRow B e sz (.slice p n c) n xs) (hn1 : news.length = sz) (hone : ∀ u ∈ news, u.oneCell' = true) (hb : B ≤ w.heap.size) (hn : n ≤ 1000) :
    ∃ p' c' w', (Builtin.append_ #[t, t] t #[.slice p n c, .slice (some ⟨w.heap.size, 0, none⟩) 1 1]).run Try.prog (w.alloc (.cells news.toArray e)) = .ok (.slice p' (n + 1) c') w' ∧ w'.ownsRow B e sz (.slice p' (n + 1) c') (n + 1) (xs ++ news) ∧ Below B w w' ∧
      (∀ g, g < w.heap.size → Apart (Value.slice p n c).ownBlock (some g) → w'.heap[g]? = w.heap[g]?) ∧ (∀ b : Option Nat, (∀ g, b = some g → g < w.heap.size) → Apart (Value.slice p n c).ownBlock b → Apart (Value.slice p' (n + 1) c').ownBlock b) ∧ w.heap.size ≤ w'.heap.size := by
  obtain ⟨i0, hi, hz0, hz1, hz2⟩ := info_parts hinfo
  have hnw := news_at w news e
  obtain ⟨g, cap, w', hr, ho', hg, hlies, hlt⟩ := run_append_lies (P := Try.prog) (w.alloc (.cells news.toArray e)) t t B e i0 z sz by_ ht hi hz0 hz1 hz2 hz hsz (.slice p n c) n xs (ho.alloc _) ⟨w.heap.size, 0, none⟩ 1 1 news (by omega) hnw hone (by decide) (by unfold maxLen; omega) (by
    have : (n + 1) * by_ ≤ 1001 * 1000 := Nat.mul_le_mul (by omega) hby
    omega) (by simp; omega) _ rfl
  refine ⟨_, cap, w', hr, ho', ((Below.refl _ _).alloc hb _).grown hg (by simp; omega) (fun j e => (ho.lt j e).1), fun g' h1 h2 => ?_, fun b h1 h2 g' hg' hbg => ?_, ?_⟩
  · exact (hg.block g' (by simp; omega) (fun e => h2 g' e.symm rfl)).trans (Below.heap_alloc _ _ _ h1)
  · have e : g = g' := by simpa [Value.ownBlock] using hg'
    subst e
    rcases hlies with h3 | h3
    · exact h2 g h3 hbg
    · have := h1 g hbg
      simp at h3
      omega
  · have := hg.size
    simp at this
    omega

theorem own_lt {w : World} {B n sz : Nat} {e : TypeId} {v : Value} {xs : List Value} (h : w.ownsRow B e sz v n xs) : ∀ g, v.ownBlock = some g → g < w.heap.size := fun g hg => (h.lt g hg).2

/-- A handle more. -/
theorem push3 {B g9 : Nat} {vT : Value} {pH pG pA : Option Addr} {cH cG cA : Nat} {T : List Sl} {E : List En} {w : World} (h : Rws B g9 vT (.slice pH E.length cH) (.slice pG E.length cG) (.slice pA E.length cA) T E w) (hE : E.length ≤ 1000) (x y b : Int) :
    ∃ pH' cH' w1, (Builtin.append_ #[32, 32] 32 #[.slice pH E.length cH, .slice (some ⟨w.heap.size, 0, none⟩) 1 1]).run Try.prog (w.alloc (.cells #[.int .i64 x, .int .i64 y] 42)) = .ok (.slice pH' (E.length + 1) cH') w1 ∧
    ∃ pG' cG' w2, (Builtin.append_ #[38, 38] 38 #[.slice pG E.length cG, .slice (some ⟨w1.heap.size, 0, none⟩) 1 1]).run Try.prog (w1.alloc (.cells #[.bool true] 4)) = .ok (.slice pG' (E.length + 1) cG') w2 ∧
    ∃ pA' cA' w3, (Builtin.append_ #[25, 25] 25 #[.slice pA E.length cA, .slice (some ⟨w2.heap.size, 0, none⟩) 1 1]).run Try.prog (w2.alloc (.cells #[.int .i64 b] 3)) = .ok (.slice pA' (E.length + 1) cA') w3 ∧
      Rws B g9 vT (.slice pH' (E.length + 1) cH') (.slice pG' (E.length + 1) cG') (.slice pA' (E.length + 1) cA') T (E ++ [((x, y), true, b)]) w3 ∧ Below B w w3 := by
  obtain ⟨pH', cH', w1, r1, o1, b1, k1, a1, s1⟩ := append_k Try.underlying32 infoTm rfl (by decide) (by decide) h.rH (news := [.int .i64 x, .int .i64 y]) rfl (by simp [Value.oneCell']) h.big hE
  have rT1 := own_block h.rT fun g hg => k1 g (own_lt h.rT g hg) fun g' hg' he => h.dTH g' (by rw [← he]; exact hg) hg'
  have rG1 := own_block h.rG fun g hg => k1 g (own_lt h.rG g hg) fun g' hg' he => h.dHG g' hg' (by rw [← he]; exact hg)
  have rA1 := own_block h.rA fun g hg => k1 g (own_lt h.rA g hg) fun g' hg' he => h.dHA g' hg' (by rw [← he]; exact hg)
  have bx1 := (k1 g9 h.lt h.dH).trans h.box
  have dH1 := a1 (some g9) (fun g e => by injection e with e; have := h.lt; omega) h.dH
  have dHT1 := a1 vT.ownBlock (own_lt h.rT) h.dTH.symm
  have dHG1 := a1 _ (own_lt h.rG) h.dHG
  have dHA1 := a1 _ (own_lt h.rA) h.dHA
  obtain ⟨pG', cG', w2, r2, o2, b2, k2, a2, s2⟩ := append_k Try.underlying38 infoBool rfl (by decide) (by decide) rG1 (news := [.bool true]) rfl (by simp [Value.oneCell']) (Nat.le_trans h.big s1) hE
  have lt91 : g9 < w1.heap.size := Nat.lt_of_lt_of_le h.lt s1
  have rT2 := own_block rT1 fun g hg => k2 g (own_lt rT1 g hg) fun g' hg' he => h.dTG g' (by rw [← he]; exact hg) hg'
  have rH2 := own_block o1 fun g hg => k2 g (own_lt o1 g hg) fun g' hg' he => dHG1 g' (by rw [← he]; exact hg) hg'
  have rA2 := own_block rA1 fun g hg => k2 g (own_lt rA1 g hg) fun g' hg' he => h.dGA g' hg' (by rw [← he]; exact hg)
  have bx2 := (k2 g9 lt91 h.dG).trans bx1
  have dG2 := a2 (some g9) (fun g e => by injection e with e; omega) h.dG
  have dGT2 := a2 vT.ownBlock (own_lt rT1) h.dTG.symm
  have dGH2 := a2 _ (own_lt o1) dHG1.symm
  have dGA2 := a2 _ (own_lt rA1) h.dGA
  obtain ⟨pA', cA', w3, r3, o3, b3, k3, a3, s3⟩ := append_k Try.underlying25 infoInt rfl (by decide) (by decide) rA2 (news := [.int .i64 b]) rfl (by simp [Value.oneCell']) (Nat.le_trans h.big (Nat.le_trans s1 s2)) hE
  have lt92 : g9 < w2.heap.size := Nat.lt_of_lt_of_le lt91 s2
  have rT3 := own_block rT2 fun g hg => k3 g (own_lt rT2 g hg) fun g' hg' he => h.dTA g' (by rw [← he]; exact hg) hg'
  have rH3 := own_block rH2 fun g hg => k3 g (own_lt rH2 g hg) fun g' hg' he => dHA1 g' (by rw [← he]; exact hg) hg'
  have rG3 := own_block o2 fun g hg => k3 g (own_lt o2 g hg) fun g' hg' he => dGA2 g' (by rw [← he]; exact hg) hg'
  have bx3 := (k3 g9 lt92 h.dA).trans bx2
  have dA3 := a3 (some g9) (fun g e => by injection e with e; omega) h.dA
  have dAT3 := a3 vT.ownBlock (own_lt rT2) h.dTA.symm
  have dAH3 := a3 _ (own_lt rH2) dHA1.symm
  have dAG3 := a3 _ (own_lt o2) dGA2.symm
  have eH : tcells (hsE (E ++ [((x, y), true, b)])) = tcells (hsE E) ++ [.int .i64 x, .int .i64 y] := by
    unfold hsE
    rw [List.map_append, tcells_append]
    rfl
  have eG : bcells (gdE (E ++ [((x, y), true, b)])) = bcells (gdE E) ++ [.bool true] := by
    unfold gdE
    rw [List.map_append, bcells_append]
    rfl
  have eA : icells (atE (E ++ [((x, y), true, b)])) = icells (atE E) ++ [.int .i64 b] := by
    unfold atE
    rw [List.map_append, icells_append]
    rfl
  have eL : (E ++ [((x, y), true, b)]).length = E.length + 1 := by simp
  exact ⟨pH', cH', w1, r1, pG', cG', w2, r2, pA', cA', w3, r3, ⟨bx3, rT3, by rw [eH, eL]; exact rH3, by rw [eG, eL]; exact rG3, by rw [eA, eL]; exact o3, h.dT, dH1, dG2, dA3, dHT1.symm, dGT2.symm, dAT3.symm, dGH2.symm, dAH3.symm, dAG3.symm, Nat.le_trans h.big (Nat.le_trans s1 (Nat.le_trans s2 s3))⟩, (b1.trans b2).trans b3⟩

section
variable {B g9 : Nat} {vT vH vG vA : Value} {T : List Sl} {E : List En} {w w' : World}

theorem hsE_set {k : Nat} (hk : k < E.length) {y : En} (hy : y.1 = E[k].1) : hsE (E.set k y) = hsE E := map_set_same hk hy

theorem gdE_same {k : Nat} (hk : k < E.length) {y : En} (hy : y.2.1 = E[k].2.1) : gdE (E.set k y) = gdE E := by
  unfold gdE
  rw [List.map_set, hy]
  refine List.ext_getElem (by simp) fun j h1 h2 => ?_
  rw [List.getElem_set]
  split
  · subst_vars
    simp
  · rfl

theorem atE_same {k : Nat} (hk : k < E.length) {y : En} (hy : y.2.2 = E[k].2.2) : atE (E.set k y) = atE E := by
  unfold atE
  rw [List.map_set, hy]
  refine List.ext_getElem (by simp) fun j h1 h2 => ?_
  rw [List.getElem_set]
  split
  · subst_vars
    simp
  · rfl

/-- A handle is no more good. -/
theorem Rws.mark {gG cG k : Nat} (h : Rws B g9 vT vH (.slice (some ⟨gG, 0, none⟩) E.length cG) vA T E w) (hk : k < E.length) {y : En} (h1 : y.1 = E[k].1) (h3 : y.2.2 = E[k].2.2) :
    Rws B g9 vT vH (.slice (some ⟨gG, 0, none⟩) E.length cG) vA T (E.set k y) (w.setCell ⟨gG, k, none⟩ (.bool y.2.1)) := by
  have hne : ∀ {b : Option Nat}, Apart (Value.slice (some ⟨gG, 0, none⟩) E.length cG).ownBlock b → Apart b (some gG) := fun hh => hh.symm
  have e1 : (gdE E).set k y.2.1 = gdE (E.set k y) := by unfold gdE; rw [List.map_set]
  have e2 : (bcells (gdE E)).set k (.bool y.2.1) = bcells (gdE (E.set k y)) := by rw [← e1]; unfold bcells; rw [List.map_set]
  have hs := (h.rG.stored k (.bool y.2.1)).1
  rw [e2] at hs
  have el : (E.set k y).length = E.length := by simp
  refine ⟨?_, own_set h.rT h.dTG, by rw [hsE_set hk h1, el]; exact own_set h.rH h.dHG, by rw [el]; exact hs, by rw [atE_same hk h3, el]; exact own_set h.rA h.dGA.symm, h.dT, h.dH, h.dG, h.dA, h.dTH, h.dTG, h.dTA, h.dHG, h.dHA, h.dGA, by simpa using h.big⟩
  have hg : g9 ≠ gG := fun e => h.dG gG rfl (by rw [e])
  exact (Below.heap_setCell _ _ _ _ (by simpa using hg)).trans h.box

/-- A handle's backend is another one. -/
theorem Rws.shift {gA cA k : Nat} (h : Rws B g9 vT vH vG (.slice (some ⟨gA, 0, none⟩) E.length cA) T E w) (hk : k < E.length) {y : En} (h1 : y.1 = E[k].1) (h3 : y.2.1 = E[k].2.1) :
    Rws B g9 vT vH vG (.slice (some ⟨gA, 0, none⟩) E.length cA) T (E.set k y) (w.setCell ⟨gA, k, none⟩ (.int .i64 y.2.2)) := by
  have e1 : (atE E).set k y.2.2 = atE (E.set k y) := by unfold atE; rw [List.map_set]
  have e2 : (icells (atE E)).set k (.int .i64 y.2.2) = icells (atE (E.set k y)) := by rw [← e1]; unfold icells; rw [List.map_set]
  have hs := (h.rA.stored k (.int .i64 y.2.2)).1
  rw [e2] at hs
  have el : (E.set k y).length = E.length := by simp
  refine ⟨?_, own_set h.rT h.dTA, by rw [hsE_set hk h1, el]; exact own_set h.rH h.dHA, by rw [gdE_same hk h3, el]; exact own_set h.rG h.dGA, by rw [el]; exact hs, h.dT, h.dH, h.dG, h.dA, h.dTH, h.dTG, h.dTA, h.dHG, h.dHA, h.dGA, by simpa using h.big⟩
  have hg : g9 ≠ gA := fun e => h.dA gA rfl (by rw [e])
  exact (Below.heap_setCell _ _ _ _ (by simpa using hg)).trans h.box

/-- What can be read of the rows at a place. -/
theorem Rws.at {pH pG pA : Option Addr} {cH cG cA k : Nat} (h : Rws B g9 vT (.slice pH E.length cH) (.slice pG E.length cG) (.slice pA E.length cA) T E w) (hk : k < E.length) :
    ∃ gH gG gA, pH = some ⟨gH, 0, none⟩ ∧ pG = some ⟨gG, 0, none⟩ ∧ pA = some ⟨gA, 0, none⟩ ∧
      (w.cell? ⟨gH, k * 2, none⟩ = some (.int .i64 E[k].1.1) ∧ w.cell? ⟨gH, k * 2 + 1, none⟩ = some (.int .i64 E[k].1.2)) ∧
      (w.cell? ⟨gG, k, none⟩ = some (.bool E[k].2.1) ∧ w.frozen? ⟨gG, k, none⟩ = false) ∧ (w.cell? ⟨gA, k, none⟩ = some (.int .i64 E[k].2.2) ∧ w.frozen? ⟨gA, k, none⟩ = false) ∧ gH < w.heap.size ∧ gG < w.heap.size ∧ gA < w.heap.size ∧ B ≤ gG ∧ B ≤ gA ∧ E.length ≤ cH ∧ cH ≤ maxLen ∧ E.length ≤ cG ∧ cG ≤ maxLen ∧ E.length ≤ cA ∧ cA ≤ maxLen := by
  obtain ⟨gH, _, e1, bH, lH⟩ := h.rH.form (by omega)
  obtain ⟨gG, _, e2, bG, lG⟩ := h.rG.form (by omega)
  obtain ⟨gA, _, e3, bA, lA⟩ := h.rA.form (by omega)
  injection e1 with e1 _ e1'
  injection e2 with e2 _ e2'
  injection e3 with e3 _ e3'
  subst e1 e2 e3 e1' e2' e3'
  have hH := tcells_at (hsE E) k (by rw [hsE_len]; exact hk)
  have eH : (hsE E)[k]'(by rw [hsE_len]; exact hk) = E[k].1 := by simp [hsE]
  rw [eH] at hH
  have hG : (bcells (gdE E))[k]? = some (.bool E[k].2.1) := by simp [bcells, gdE, hk]
  have hA : (icells (atE E))[k]? = some (.int .i64 E[k].2.2) := by simp [icells, atE, hk]
  have cap : ∀ {g n c sz b : Nat} {e : TypeId} {xs : List Value}, w.ownsRow b e sz (.slice (some ⟨g, 0, none⟩) n c) n xs → n ≤ c ∧ c ≤ maxLen := fun hh => by
    obtain ⟨a, c', e, h1, h2, _⟩ := rowAt_own hh
    injection e with _ _ e
    subst e
    exact ⟨h1, h2⟩
  refine ⟨gH, gG, gA, rfl, rfl, rfl, ⟨?_, ?_⟩, ⟨?_, h.rG.frozenAt k⟩, ⟨?_, h.rA.frozenAt k⟩, lH, lG, lA, bG, bA, (cap h.rH).1, (cap h.rH).2, (cap h.rG).1, (cap h.rG).2, (cap h.rA).1, (cap h.rA).2⟩
  · rw [h.rH.cellAt (k * 2) (by omega)]; exact hH.1
  · rw [h.rH.cellAt (k * 2 + 1) (by omega)]; exact hH.2
  · rw [h.rG.cellAt k (by omega)]; exact hG
  · rw [h.rA.cellAt k (by omega)]; exact hA
end
end Go.Proofs.Ythiojfgimjoenaa.Walks
