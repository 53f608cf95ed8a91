/-
  table, part 1: contracts of its functions, and what they lean on. Conditions: what is read can be read.
-/
import Derived.Test.YtlphohahijeimaaChecked
import Derived.Test.YtlphohahijeimaaRows
import Derived.Deep.MidRow
import Derived.Deep.Upon
import Derived.WalkKit
import Derived.ProofKit
import Derived.Handy
import Derived.LoopTactic
import Derived.Below
import Derived.Laws.BitsAllLaws
import Derived.RegionTactic
import Derived.Deep.RegionHeld3
import Derived.Deep.DrawnRows
import Derived.Deep.AppendLies
import Derived.Laws.OwnMore
import Derived.Deep.Onto
import Derived.Deep.QuietTactic
import Derived.BigQuiet
import Derived.Deep.CutRange
import Derived.Deep.RegionLaw
namespace Go.Proofs.Ytlphohahijeimaa.Tb
open Go.RowKit
set_option linter.unusedVariables false
set_option linter.unusedSimpArgs false
attribute [local go_sem ↓] Go.wp_at_zero Go.wp_at_succ
section
abbrev Tm := Int × Int

def tcells : List Tm → List Value
  | [] => []
  | t :: l => .int .i64 t.1 :: .int .i64 t.2 :: tcells l

theorem tcells_len : ∀ l : List Tm, (tcells l).length = l.length * 2
  | [] => rfl
  | t :: l => by simp [tcells, tcells_len l]; omega

theorem tcells_at : ∀ (l : List Tm) (i : Nat) (h : i < l.length), (tcells l)[i * 2]? = some (.int .i64 l[i].1) ∧ (tcells l)[i * 2 + 1]? = some (.int .i64 l[i].2)
  | t :: l, 0, _ => by simp [tcells]
  | t :: l, i + 1, h => by
    have h2 := tcells_at l i (by simpa using h)
    rw [show (i + 1) * 2 = i * 2 + 1 + 1 by omega]
    simpa [tcells] using h2

def RowAt (w : World) (v : Value) (n : Nat) (xs : List Value) : Prop :=
  ∃ a cap, v = .slice a n cap ∧ n ≤ cap ∧ cap ≤ maxLen ∧ (n = 0 ∧ xs = [] ∨ ∃ b off, a = some ⟨b, off, none⟩ ∧ b < w.heap.size ∧ ∀ i, i < xs.length → w.cell? ⟨b, off + i, none⟩ = xs[i]?)

def TmAt (w : World) (v : Value) (l : List Tm) : Prop := RowAt w v l.length (tcells l)

theorem TmAt.parts {w : World} {v : Value} {l : List Tm} (h : TmAt w v l) :
    ∃ a cap, v = .slice a l.length cap ∧ l.length ≤ cap ∧ cap ≤ maxLen ∧ ∀ i (hi : i < l.length), ∃ b off, a = some ⟨b, off, none⟩ ∧ b < w.heap.size ∧ w.cell? ⟨b, off + i * 2, none⟩ = some (.int .i64 l[i].1) ∧ w.cell? ⟨b, off + i * 2 + 1, none⟩ = some (.int .i64 l[i].2) := by
  obtain ⟨a, cap, hv, hc, hm, h1 | ⟨b, off, h1, h2, h3⟩⟩ := h
  · exact ⟨a, cap, hv, hc, hm, fun i hi => absurd hi (by omega)⟩
  · refine ⟨a, cap, hv, hc, hm, fun i hi => ⟨b, off, h1, h2, ?_, ?_⟩⟩
    · rw [h3 (i * 2) (by rw [tcells_len]; omega)]; exact (tcells_at l i hi).1
    · rw [Nat.add_assoc, h3 (i * 2 + 1) (by rw [tcells_len]; omega)]; exact (tcells_at l i hi).2

theorem below_drewN {B : Nat} {a w : World} (h : Below B a w) (n : Nat) : Below B a (w.drewN n) := h.trans ⟨rfl, rfl, rfl, Nat.le_refl _, fun _ _ => rfl⟩

set_option maxHeartbeats 1000000 in
theorem in_any (n lo hi : Int) (w : World) : Calls Try.prog 13 #[.int .i64 n, .int .i64 lo, .int .i64 hi] w fun r w' => r = .returned (.bool (decide (lo ≤ n ∧ n ≤ hi))) ∧ w' = w := by
  obtain ⟨ans, hans⟩ : ∃ ans, ans = decide (lo ≤ n ∧ n ≤ hi) := ⟨_, rfl⟩
  rw [← hans]
  have H : Hid _ := hans
  clear hans
  cases h1 : decide (lo ≤ n)
  · go_enter Try.func13, Try.ntmps13
    go_wp2
    go_ret
    exact ⟨by rw [H.out, decide_eq_false (fun h => of_decide_eq_false h1 h.1)]; rfl, rfl⟩
  · cases h2 : decide (n ≤ hi)
    · go_enter Try.func13, Try.ntmps13
      go_wp2
      go_ret
      exact ⟨by rw [H.out, decide_eq_false (fun h => of_decide_eq_false h2 h.2)]; rfl, rfl⟩
    · go_enter Try.func13, Try.ntmps13
      go_wp2
      go_ret
      exact ⟨by rw [H.out, decide_eq_true ⟨of_decide_eq_true h1, of_decide_eq_true h2⟩]; rfl, rfl⟩

theorem own_block {w w' : World} {base : Nat} {e : TypeId} {k : Nat} {v : Value} {n : Nat} {xs : List Value} (h : w.ownsRow base e k v n xs) (hs : ∀ g, v.ownBlock = some g → w'.heap[g]? = w.heap[g]?) : w'.ownsRow base e k v n xs := by
  refine ⟨h.1, ?_⟩
  rcases h.2 with hn | ⟨g, cap, cur, rfl, hb, hgg, rest⟩
  · exact .inl hn
  · exact .inr ⟨g, cap, cur, rfl, hb, by rw [hs g rfl]; exact hgg, rest⟩

theorem news_at (w : World) (cs : List Value) (T : TypeId) : ∀ j u, cs[j]? = some u → (w.alloc (.cells cs.toArray T)).cell? ((⟨w.heap.size, 0, none⟩ : Addr).add j) = some u := by
  intro j u hu
  have hadd : (⟨w.heap.size, 0, none⟩ : Addr).add j = ⟨w.heap.size, j, none⟩ := by unfold Addr.add; split <;> simp_all
  rw [hadd, cell_of_row _ w.heap.size j cs.toArray T (0, 0) (heap_alloc_new w _)]
  simpa using hu

theorem heap_old (w : World) (o : Obj) {k : Nat} {x : Obj} (h : w.heap[k]? = some x) : (w.alloc o).heap[k]? = some x := by
  rw [Below.heap_alloc _ _ _ (Array.getElem?_eq_some_iff.1 h).1]; exact h

theorem heap_second (w : World) (o p : Obj) : ((w.alloc o).alloc p).heap[w.heap.size + 1]? = some p := by
  have := heap_alloc_new (w.alloc o) p
  simpa using this

theorem own_form {w : World} {base : Nat} {e : TypeId} {k : Nat} {v : Value} {n : Nat} {xs : List Value} (h : w.ownsRow base e k v n xs) : ∃ p c, v = .slice p n c := by
  rcases h.2 with ⟨rfl, rfl⟩ | ⟨g, cap, cur, rfl, _⟩
  · exact ⟨_, _, rfl⟩
  · exact ⟨_, _, rfl⟩

end

section
def icells (a : List Int) : List Value := a.map fun x => .int .i64 x

theorem icells_len (a : List Int) : (icells a).length = a.length := by simp [icells]

def Arr (T : TypeId) (n : Nat) (w : World) (g : Nat) (a : List Int) : Prop := w.heap[g]? = some (.cells (icells a).toArray T (0, 0)) ∧ a.length = n

section

variable {T : TypeId} {n : Nat} {w w' : World} {g : Nat} {a b : List Int}

theorem Arr.lt (h : Arr T n w g a) : g < w.heap.size := (Array.getElem?_eq_some_iff.1 h.1).1

theorem Arr.cell (h : Arr T n w g a) (i : Nat) (hi : i < a.length) : w.cell? ⟨g, i, none⟩ = some (.int .i64 a[i]) := by
  rw [cell_of_row w g i _ T (0, 0) h.1]
  simp [icells, hi]

theorem Arr.frozen (h : Arr T n w g a) (i : Nat) : w.frozen? ⟨g, i, none⟩ = false := by simp [World.frozen?, h.1]

end

theorem load_row {P : Program} {w : World} {g : Nat} {T : TypeId} {cs : List Value} {d : TypeDesc} (h : w.heap[g]? = some (.cells cs.toArray T (0, 0))) (hu : P.underlying T = some d) (hd : d.isRow = true) (hi : (P.info? T).map (·.size) = some cs.length) : (loadVar T ⟨g, 0, none⟩).run P w = .ok (.agg cs.toArray) w :=
  run_loadVar_mid w g 0 T cs d (fun j v hv => by rw [Nat.zero_add, cell_of_row w g j _ T (0, 0) h]; simpa using hv) hu hd hi

end

section
abbrev Sl := Int × Bool × Int × Int

def scells : List Sl → List Value
  | [] => []
  | t :: l => .int .i64 t.1 :: .bool t.2.1 :: .int .i64 t.2.2.1 :: .int .i64 t.2.2.2 :: scells l

theorem scells_len : ∀ l : List Sl, (scells l).length = l.length * 4
  | [] => rfl
  | t :: l => by simp [scells, scells_len l]; omega

theorem scells_append : ∀ l m : List Sl, scells (l ++ m) = scells l ++ scells m
  | [], _ => rfl
  | t :: l, m => by simp [scells, scells_append l m]

theorem scells_at : ∀ (l : List Sl) (i : Nat) (h : i < l.length), (scells l)[i * 4]? = some (.int .i64 l[i].1) ∧ (scells l)[i * 4 + 1]? = some (.bool l[i].2.1) ∧ (scells l)[i * 4 + 2]? = some (.int .i64 l[i].2.2.1) ∧ (scells l)[i * 4 + 3]? = some (.int .i64 l[i].2.2.2)
  | t :: l, 0, _ => by simp [scells]
  | t :: l, i + 1, h => by
    have h2 := scells_at l i (by simpa using h)
    rw [show (i + 1) * 4 = i * 4 + 1 + 1 + 1 + 1 by omega]
    simpa [scells] using h2

theorem scells_one (l : List Sl) : ∀ u ∈ scells l, u.oneCell' = true := by
  induction l with
  | nil => simp [scells]
  | cons t l ih =>
    simp only [scells, List.mem_cons]
    rintro u (rfl | rfl | rfl | rfl | h)
    · rfl
    · rfl
    · rfl
    · rfl
    · exact ih u h

def SlAt (w : World) (v : Value) (l : List Sl) : Prop := RowAt w v l.length (scells l)

theorem SlAt.parts {w : World} {v : Value} {l : List Sl} (h : SlAt w v l) :
    ∃ a cap, v = .slice a l.length cap ∧ l.length ≤ cap ∧ cap ≤ maxLen ∧ ∀ i (hi : i < l.length), ∃ b off, a = some ⟨b, off, none⟩ ∧ b < w.heap.size ∧ w.cell? ⟨b, off + i * 4, none⟩ = some (.int .i64 l[i].1) ∧ w.cell? ⟨b, off + i * 4 + 1, none⟩ = some (.bool l[i].2.1) ∧ w.cell? ⟨b, off + i * 4 + 2, none⟩ = some (.int .i64 l[i].2.2.1) ∧ w.cell? ⟨b, off + i * 4 + 3, none⟩ = some (.int .i64 l[i].2.2.2) := by
  obtain ⟨a, cap, hv, hc, hm, h1 | ⟨b, off, h1, h2, h3⟩⟩ := h
  · exact ⟨a, cap, hv, hc, hm, fun i hi => absurd hi (by omega)⟩
  · refine ⟨a, cap, hv, hc, hm, fun i hi => ⟨b, off, h1, h2, ?_, ?_, ?_, ?_⟩⟩
    · rw [h3 (i * 4) (by rw [scells_len]; omega)]; exact (scells_at l i hi).1
    · rw [Nat.add_assoc, h3 (i * 4 + 1) (by rw [scells_len]; omega)]; exact (scells_at l i hi).2.1
    · rw [Nat.add_assoc, h3 (i * 4 + 2) (by rw [scells_len]; omega)]; exact (scells_at l i hi).2.2.1
    · rw [Nat.add_assoc, h3 (i * 4 + 3) (by rw [scells_len]; omega)]; exact (scells_at l i hi).2.2.2

theorem infoSl : (Try.prog.info? 88).map (fun i => (i.zero, i.size, i.bytes)) = some (some (.agg #[.int .i64 0, .bool false, .int .i64 0, .int .i64 0]), 4, 32) := by kernel_rfl

theorem one_cell {w : World} {g : Nat} {a : Value} {T : TypeId} (h : w.heap[g]? = some (.cells #[a] T (0, 0))) : w.cell? ⟨g, 0, none⟩ = some a := by simp [World.cell?, h]

theorem wpList_append_eq {P : Program} {w : World} {ops : Array Oper} {rest : List Oper} {o : Oper} {a : Act} {Q : Exit → Act → World → Prop} (hgd : o.guard = none) (s x : Operand) (t : TypeId)
    (ho : o.op = .call { callee := .builtin .append, args := #[s, x], argTypes := #[t, t] }) (v u y : Value) (w' : World) (hs : a.eval s = v) (hx : a.eval x = u) (hr : (Builtin.append_ #[t, t] o.type #[v, u]).run P w = .ok y w')
    (h : wpList P ops Q rest (a.put o.dst y) w') : wpList P ops Q (o :: rest) a w :=
  wpList_plain hgd fun _ hK => by
    unfold Oper.wp execOp
    simp only [ho, resolve, invoke, builtin, Sem.run_bind, Sem.run_pure, Result.andThen_ok, List.map_toArray, List.map_cons, List.map_nil, hs, hx, hr]
    exact hK _ _ h

end

section
abbrev isKeyP (n : Int) : Prop := 0 ≤ n ∧ n ≤ 4294967295

abbrev isBeP (n : Int) : Prop := 0 ≤ n ∧ n < 12

abbrev SlotOk (t : Sl) : Prop := if t.2.1 = true then (0 ≤ t.1 ∧ t.1 ≤ 1048575) ∧ isKeyP t.2.2.1 ∧ isBeP t.2.2.2 else (0 ≤ t.1 ∧ t.1 ≤ 1048576) ∧ t.2.2.1 = 0 ∧ t.2.2.2 = 0

theorem below_newC (w : World) {o : Obj} : Below w.heap.size w (w.alloc o) := (Below.refl _ _).alloc (Nat.le_refl _) _

abbrev TabOk (l : List Sl) : Prop := (1 ≤ l.length ∧ l.length ≤ 40) ∧ ∀ t ∈ l, SlotOk t

end

section
theorem unlike4 (a : Int) (u : Bool) (k b a' : Int) (u' : Bool) (k' b' : Int) : (a = a' ∧ u = u' ∧ k = k' ∧ b = b') ∨ ((a, u, k, b) ≠ (a', u', k', b') ∧ ((a == a') = false ∨ (a = a' ∧ u = true ∧ u' = false) ∨ (a = a' ∧ u = false ∧ u' = true) ∨ (a = a' ∧ u = u' ∧ (k == k') = false) ∨ (a = a' ∧ u = u' ∧ k = k' ∧ (b == b') = false))) := by
  simp only [beq_eq_false_iff_ne]
  by_cases h : a = a'
  · by_cases h2 : k = k'
    · by_cases h3 : b = b'
      · cases u <;> cases u' <;> simp [h, h2, h3]
      · cases u <;> cases u' <;> simp [h, h2, h3]
    · cases u <;> cases u' <;> simp [h, h2]
  · right
    exact ⟨fun e => h (by injection e), .inl h⟩

set_option maxHeartbeats 4000000 in
theorem sameTable_any (u v : Value) (l m : List Sl) (w : World) (hu : SlAt w u l) (hv : SlAt w v m) :
    Calls Try.prog 24 #[.agg #[u], .agg #[v]] w fun r w' => r = .returned (.bool (decide (l = m))) ∧ Below w.heap.size w w' := by
  obtain ⟨a, ca, rfl, hca, hma, pa⟩ := hu.parts
  obtain ⟨b, cb, rfl, hcb, hmb, pb⟩ := hv.parts
  unfold maxLen at hma hmb
  by_cases hlen : l.length = m.length
  · have HL : Hid (l.length = m.length) := hlen
    rw [← hlen] at hcb ⊢
    clear hlen
    go_enter Try.func24, Try.ntmps24
    go_wp2
    obtain ⟨W0, hW0⟩ : ∃ W0, W0 = (w.alloc (.cells #[.slice a l.length ca] 33)).alloc (.cells #[.slice b l.length cb] 33) := ⟨_, rfl⟩
    have hb0 : Below w.heap.size w W0 := by rw [hW0]; exact ((Below.refl _ _).alloc (Nat.le_refl _) _).alloc (by simp) _
    have f0 : W0.cell? ⟨w.heap.size, 0, none⟩ = some (.slice a l.length ca) := by rw [hW0]; exact one_cell (heap_old _ _ (heap_alloc_new _ _))
    have f1 : W0.cell? ⟨w.heap.size + 1, 0, none⟩ = some (.slice b l.length cb) := by rw [hW0]; exact one_cell (heap_second _ _ _)
    rw [← hW0]
    have H0 : Hid _ := hb0
    clear hb0 hW0
    go_loopw [5] (fun i wr => ∃ k : Nat, i = .int .i64 k ∧ k ≤ l.length ∧ (∀ j, j < k → l[j]? = m[j]?) ∧ ∃ q, wr = W0.drewN q) (fun i _ => l.length - (intOf i).toNat)
    case atStart => exact ⟨0, rfl, Nat.zero_le _, fun j hj => absurd hj (Nat.not_lt_zero _), 0, rfl⟩
    case round =>
      obtain ⟨k, rfl, hk, hall, q, rfl⟩ := hrel
      have HA : Hid _ := hall
      clear hall
      by_cases hlt : k < l.length
      · obtain ⟨b1, o1, rfl, hb1, c1, c2, c3, c4⟩ := pa k hlt
        obtain ⟨b2, o2, rfl, hb2, d1, d2, d3, d4⟩ := pb k (by rw [← HL.out]; exact hlt)
        replace c1 := (H0.out.cell (p := ⟨b1, o1 + k * 4, none⟩) hb1).trans c1
        replace c2 := (H0.out.cell (p := ⟨b1, o1 + k * 4 + 1, none⟩) hb1).trans c2
        replace c3 := (H0.out.cell (p := ⟨b1, o1 + k * 4 + 2, none⟩) hb1).trans c3
        replace c4 := (H0.out.cell (p := ⟨b1, o1 + k * 4 + 3, none⟩) hb1).trans c4
        replace d1 := (H0.out.cell (p := ⟨b2, o2 + k * 4, none⟩) hb2).trans d1
        replace d2 := (H0.out.cell (p := ⟨b2, o2 + k * 4 + 1, none⟩) hb2).trans d2
        replace d3 := (H0.out.cell (p := ⟨b2, o2 + k * 4 + 2, none⟩) hb2).trans d3
        replace d4 := (H0.out.cell (p := ⟨b2, o2 + k * 4 + 3, none⟩) hb2).trans d4
        clear hb1 hb2 pa pb
        obtain ⟨⟨x1, x2, x3, x4⟩, hx⟩ : ∃ x, x = l[k] := ⟨_, rfl⟩
        obtain ⟨⟨y1, y2, y3, y4⟩, hy⟩ : ∃ y, y = (m[k]'(by rw [← HL.out]; exact hlt)) := ⟨_, rfl⟩
        rw [← hx] at c1 c2 c3 c4
        rw [← hy] at d1 d2 d3 d4
        have HX : Hid (_ ∧ _) := ⟨hx, hy⟩
        clear hx hy
        rcases unlike4 x1 x2 x3 x4 y1 y2 y3 y4 with ⟨rfl, rfl, rfl, rfl⟩ | ⟨hu, hne⟩
        · go_wp2
          go_region
          go_wp2
          go_roundw
          case rel =>
            refine ⟨k + 1, by simp, hlt, fun j hj => ?_, q + 1, rfl⟩
            rcases Nat.lt_succ_iff_lt_or_eq.1 hj with h | rfl
            · exact HA.out j h
            · rw [List.getElem?_eq_getElem hlt, List.getElem?_eq_getElem (by rw [← HL.out]; exact hlt)]
              exact congrArg some (HX.out.1.symm.trans HX.out.2)
          case measure => simp [intOf]; omega
        · have HN : Hid (decide (l = m) = false) := by
            refine decide_eq_false fun h => ?_
            subst h
            exact hu (HX.out.1.trans HX.out.2.symm)
          clear hu
          rcases hne with hne | ⟨rfl, rfl, rfl⟩ | ⟨rfl, rfl, rfl⟩ | ⟨rfl, rfl, hne⟩ | ⟨rfl, rfl, rfl, hne⟩
          all_goals
            go_wp2
            go_region
            go_wp2
            go_ret
            exact ⟨by rw [HN.out]; rfl, below_drewN H0.out (q + 1)⟩
      · have HE : Hid (decide (l = m) = true) := by
          refine decide_eq_true (List.ext_getElem? fun j => ?_)
          rcases Nat.lt_or_ge j k with h | h
          · exact HA.out j h
          · rw [List.getElem?_eq_none (by omega), List.getElem?_eq_none (by rw [← HL.out]; omega)]
        clear pa pb
        go_wp2
        go_ret
        exact ⟨by rw [HE.out]; rfl, below_drewN H0.out q⟩
  · have HN : Hid (decide (l = m) = false) := decide_eq_false fun h => hlen (by rw [h])
    clear pa pb
    have hne : ((l.length : Int) != (m.length : Int)) = true := by simp [bne_iff_ne]; omega
    go_enter Try.func24, Try.ntmps24
    go_wp2
    go_ret
    exact ⟨by rw [HN.out]; rfl, ((Below.refl _ _).alloc (Nat.le_refl _) _).alloc (by simp) _⟩

end

section
theorem results_ct {fn : Func} {x z : Tmp} {t : TypeId} (h : fn.results = #[.cell x t, .tmp z]) {tmps : Array Value} {P : Program} {w : World} {p : Addr} {v1 v3 : Value} (hx : tmps.getD x undef = .pointer (some p)) (hz : tmps.getD z undef = v3)
    (h1 : (loadVar t p).run P w = .ok v1 w) : (results fn tmps).run P w = .ok (.tuple #[v1, v3]) w := by
  have e1 : ∀ a : Addr, (asAddr (.pointer (some a))).run P w = .ok a w := fun a => rfl
  simp only [Array.getD_eq_getD_getElem?] at hx hz
  simp [results, h, hx, hz, e1, h1, Sem.run_bind]

end

section
theorem one_set {w : World} {g : Nat} {u v : Value} {T : TypeId} (h : w.heap[g]? = some (.cells #[u] T (0, 0))) : (w.setCell ⟨g, 0, none⟩ v).heap[g]? = some (.cells #[v] T (0, 0)) := by
  have := heap_setCell_same w g 0 _ _ v h
  simpa using this

end

section
theorem append_oneS {w : World} {base : Nat} {p : Option Addr} {k c : Nat} {m : List Sl} (ho : w.ownsRow base 88 4 (.slice p k c) k (scells m)) (hb : base ≤ w.heap.size) (hk : k ≤ 1000) (ty : TypeId) (x1 : Int) (x2 : Bool) (x3 x4 : Int) :
    ∃ p' c' w', (Builtin.append_ #[31, 31] ty #[.slice p k c, .slice (some ⟨w.heap.size, 0, none⟩) 1 1]).run Try.prog (w.alloc (.cells #[.int .i64 x1, .bool x2, .int .i64 x3, .int .i64 x4] 88)) = .ok (.slice p' (k + 1) c') w' ∧
      w'.ownsRow base 88 4 (.slice p' (k + 1) c') (k + 1) (scells (m ++ [(x1, x2, x3, x4)])) ∧ Below base w w' := by
  obtain ⟨i0, hi, hz0, hz1, hz2⟩ := info_parts infoSl
  have hn := news_at w (scells [(x1, x2, x3, x4)]) 88
  obtain ⟨v', w', hr, ho', hg, _⟩ := run_append_own (P := Try.prog) (w.alloc (.cells #[.int .i64 x1, .bool x2, .int .i64 x3, .int .i64 x4] 88)) base 31 ty 88 i0 _ 4 32 Try.underlying31 hi hz0 hz1 hz2 rfl (by decide) (.slice p k c) k (scells m) (ho.alloc _) ⟨w.heap.size, 0, none⟩ 1 1 (scells [(x1, x2, x3, x4)]) rfl hn (scells_one _) (by unfold maxLen; omega) (by omega) (by simp; omega)
  rw [← scells_append] at ho'
  obtain ⟨p', c', rfl⟩ := own_form ho'
  refine ⟨p', c', w', hr, ho', ?_⟩
  exact ((Below.refl _ _).alloc hb _).grown hg (by simp; omega) (fun j e => (ho.lt j e).1)

theorem next_slot {W0 wr : World} {B base : Nat} {p' : Option Addr} {k c' : Nat} {m m' : List Sl} (y1 : Int) (y2 : Bool) (y3 y4 : Int) (hO : wr.heap[B]? = some (.cells #[.slice p' k c'] 33 (0, 0))) (ho : wr.ownsRow base 88 4 (.slice p' k c') k (scells m)) (hB : base = B + 1) (hbr : Below B W0 wr) (hsr : base ≤ wr.heap.size) (hk : k ≤ 1000) (he : m' = m ++ [(y1, y2, y3, y4)]) :
    ∃ q d w', (Builtin.append_ #[31, 31] 31 #[.slice p' k c', .slice (some ⟨wr.heap.size, 0, none⟩) 1 1]).run Try.prog (wr.alloc (.cells #[.int .i64 y1, .bool y2, .int .i64 y3, .int .i64 y4] 88)) = .ok (.slice q (k + 1) d) w' ∧ w'.cell? ⟨B, 0, none⟩ = some (.slice p' k c') ∧ w'.frozen? ⟨B, 0, none⟩ = false ∧
      (w'.setCell ⟨B, 0, none⟩ (.slice q (k + 1) d)).heap[B]? = some (.cells #[.slice q (k + 1) d] 33 (0, 0)) ∧ (w'.setCell ⟨B, 0, none⟩ (.slice q (k + 1) d)).ownsRow base 88 4 (.slice q (k + 1) d) (k + 1) (scells m') ∧ Below B W0 (w'.setCell ⟨B, 0, none⟩ (.slice q (k + 1) d)) ∧ wr.heap.size ≤ (w'.setCell ⟨B, 0, none⟩ (.slice q (k + 1) d)).heap.size := by
  obtain ⟨q, d, w', hr, ho', hb'⟩ := append_oneS ho (by omega) hk 31 y1 y2 y3 y4
  rw [← he] at ho'
  have hO' := (hb'.block B (by omega)).trans hO
  have hsz := hb'.size
  refine ⟨q, d, w', hr, one_cell hO', by simp [World.frozen?, hO'], one_set hO', own_block ho' (fun g hg => Below.heap_setCell _ _ _ _ (by have := (ho'.lt g hg).1; simp; omega)), (hbr.trans (hb'.mono (by omega))).setCell (by simp) _, by simpa using hsz⟩

end

section
def TabRes (m : List Sl) (e : Int) (w : World) (r : Ending) (w' : World) : Prop :=
  ∃ p c, r = .returned (.tuple #[.agg #[.slice p m.length c], .int .i64 e]) ∧ w'.ownsRow w.heap.size 88 4 (.slice p m.length c) m.length (scells m) ∧ Below w.heap.size w w'

end

section
theorem made_slots (n : Nat) : madeCells #[.int .i64 0, .bool false, .int .i64 0, .int .i64 0] (n * 4) = (scells (List.replicate n (0, false, 0, 0))).toArray := by
  apply Array.ext'
  apply List.ext_getElem?
  intro i
  have hlen : (scells (List.replicate n ((0 : Int), false, (0 : Int), (0 : Int)))).length = n * 4 := by rw [scells_len]; simp
  by_cases h : i < n * 4
  · have ht := scells_at (List.replicate n ((0 : Int), false, (0 : Int), (0 : Int))) (i / 4) (by simp; omega)
    simp only [List.getElem_replicate] at ht
    have hL : (madeCells #[.int .i64 0, .bool false, .int .i64 0, .int .i64 0] (n * 4)).toList[i]? = some ((#[.int .i64 0, .bool false, .int .i64 0, .int .i64 0] : Array Value)[i % 4]!) := by
      unfold madeCells
      simp [h]
    rw [hL]
    have hp : i % 4 = 0 ∨ i % 4 = 1 ∨ i % 4 = 2 ∨ i % 4 = 3 := by omega
    rcases hp with hp | hp | hp | hp
    · rw [hp]
      rw [show i / 4 * 4 = i by omega] at ht
      exact ht.1.symm
    · rw [hp]
      rw [show i / 4 * 4 + 1 = i by omega] at ht
      exact ht.2.1.symm
    · rw [hp]
      rw [show i / 4 * 4 + 2 = i by omega] at ht
      exact ht.2.2.1.symm
    · rw [hp]
      rw [show i / 4 * 4 + 3 = i by omega] at ht
      exact ht.2.2.2.symm
  · rw [List.getElem?_eq_none (by simp [size_madeCells]; omega), List.getElem?_eq_none (by simp [hlen]; omega)]

def makeOut (n : Int) : List Sl × Int := if 1 ≤ n ∧ n ≤ 40 then (List.replicate n.toNat (0, false, 0, 0), 0) else ([], 2)

theorem made_run (n : Nat) (hn : n ≤ 40) (W : World) : (Instr.makeSlice 31 (.int .i64 (n : Int)) (.int .i64 (n : Int))).run Try.prog W = .ok (.slice (some ⟨W.heap.size, 0, none⟩) n n) (W.alloc (.cells (scells (List.replicate n (0, false, 0, 0))).toArray 88)) := by
  obtain ⟨i1, hj, hy0, hy1, hy2⟩ := info_parts infoSl
  have h := run_makeSlice (P := Try.prog) W 31 88 i1 _ Try.underlying31 hj hy0 .i64 .i64 n n (by omega) (by omega) (by rw [hy1]; omega) (by rw [hy2]; omega) (by omega)
  rw [h, hy1, Int.toNat_natCast, ← made_slots]
  rfl

theorem made_own (n : Nat) (hn : n ≤ 40) (W : World) : (W.alloc (.cells (scells (List.replicate n (0, false, 0, 0))).toArray 88)).ownsRow W.heap.size 88 4 (.slice (some ⟨W.heap.size, 0, none⟩) n n) n (scells (List.replicate n (0, false, 0, 0))) := by
  have hlen : (scells (List.replicate n ((0 : Int), false, (0 : Int), (0 : Int)))).length = n * 4 := by rw [scells_len]; simp
  refine ⟨hlen, .inr ⟨W.heap.size, n, _, rfl, Nat.le_refl _, heap_alloc_new W _, Nat.le_refl _, by unfold maxLen; omega, by simp [hlen], ?_⟩⟩
  simp
  exact List.take_of_length_le (by omega)

set_option maxHeartbeats 2000000 in
set_option maxRecDepth 100000 in
theorem make_any (n : Int) (w : World) : Calls Try.prog 17 #[.int .i64 n] w (TabRes (makeOut n).1 (makeOut n).2 w) := by
  have hB0 := heap_alloc_new w (.cells #[.slice none 0 0] 33)
  by_cases h : 1 ≤ n ∧ n ≤ 40
  · have hout : makeOut n = (List.replicate n.toNat (0, false, 0, 0), 0) := by unfold makeOut; rw [if_pos h]
    obtain ⟨h1, h2⟩ := h
    obtain ⟨k, rfl⟩ := Int.eq_ofNat_of_zero_le (a := n) (by omega)
    rw [Int.toNat_natCast] at hout
    have hr := made_run k (by omega) (w.alloc (.cells #[.slice none 0 0] 33))
    have ho := made_own k (by omega) (w.alloc (.cells #[.slice none 0 0] 33))
    have hs : (w.alloc (.cells #[.slice none 0 0] 33)).heap.size = w.heap.size + 1 := by simp
    rw [hs] at hr ho
    obtain ⟨Z, hZ⟩ : ∃ Z, Z = (scells (List.replicate k ((0 : Int), false, (0 : Int), (0 : Int)))).toArray := ⟨_, rfl⟩
    rw [← hZ] at hr ho
    obtain ⟨W1, hW1⟩ : ∃ W1, W1 = (w.alloc (.cells #[.slice none 0 0] 33)).alloc (.cells Z 88) := ⟨_, rfl⟩
    rw [← hW1] at hr ho
    have hR1 : W1.heap[w.heap.size]? = some (.cells #[.slice none 0 0] 33 (0, 0)) := by rw [hW1]; exact heap_old _ _ hB0
    have hb1 : Below w.heap.size w W1 := by rw [hW1]; exact ((Below.refl _ _).alloc (Nat.le_refl _) _).alloc (by simp) _
    have r1 := one_cell hR1
    have rf : W1.frozen? ⟨w.heap.size, 0, none⟩ = false := by simp [World.frozen?, hR1]
    have ho' : (W1.setCell ⟨w.heap.size, 0, none⟩ (.slice (some ⟨w.heap.size + 1, 0, none⟩) k k)).ownsRow w.heap.size 88 4 (.slice (some ⟨w.heap.size + 1, 0, none⟩) k k) k (scells (List.replicate k (0, false, 0, 0))) :=
      (own_block ho (fun g hg => Below.heap_setCell _ _ _ _ (by have := (ho.lt g hg).1; simp; omega))).mono (by omega)
    have HH : Hid (_ ∧ _ ∧ _ ∧ _) := ⟨one_set (v := .slice (some ⟨w.heap.size + 1, 0, none⟩) k k) hR1, ho', (show Below w.heap.size w (W1.setCell ⟨w.heap.size, 0, none⟩ (.slice (some ⟨w.heap.size + 1, 0, none⟩) k k)) from hb1.setCell (by simp) _), hout⟩
    clear hR1 ho' hb1 hout ho hs hZ hW1 hB0
    go_enter Try.func17, Try.ntmps17
    go_wp2
    refine bodyPost_ret (v := .tuple #[.agg #[.slice (some ⟨w.heap.size + 1, 0, none⟩) k k], .int .i64 0]) (results_ct Try.results17 rfl rfl (load_row (P := Try.prog) (cs := [.slice (some ⟨w.heap.size + 1, 0, none⟩) k k]) HH.out.1 Try.underlying33 rfl (by kernel_rfl))) rfl ?_
    rw [HH.out.2.2.2]
    refine ⟨some ⟨w.heap.size + 1, 0, none⟩, k, ?_, ?_, HH.out.2.2.1⟩
    · simp
    · simpa using HH.out.2.1
  · have hout : makeOut n = ([], 2) := by unfold makeOut; rw [if_neg h]
    have HH : Hid (_ ∧ _) := ⟨hout, hB0⟩
    have hc : n < 1 ∨ (1 ≤ n ∧ 40 < n) := by omega
    clear h hout hB0
    rcases hc with hc | ⟨hc, hd⟩
    all_goals
      go_enter Try.func17, Try.ntmps17
      go_wp2
      refine bodyPost_ret (v := .tuple #[.agg #[.slice none 0 0], .int .i64 2]) (results_ct Try.results17 rfl rfl (load_row (P := Try.prog) (cs := [.slice none 0 0]) HH.out.2 Try.underlying33 rfl (by kernel_rfl))) rfl ?_
      rw [HH.out.1]
      exact ⟨none, 0, rfl, World.ownsRow_nil _ _ _ _, below_newC w⟩

set_option maxHeartbeats 4000000 in
set_option maxRecDepth 100000 in
theorem tabled_any (n : Int) (w : World) : Calls Try.prog 20 #[.int .i64 n] w (TabRes (makeOut n).1 (makeOut n).2 w) := by
  have hB0 := heap_alloc_new w (.cells #[.slice none 0 0] 33)
  cases hin : decide (1 ≤ n ∧ n ≤ 40)
  · have hout : makeOut n = ([], 2) := by unfold makeOut; rw [if_neg (of_decide_eq_false hin)]
    have HH : Hid (_ ∧ _) := ⟨hout, hB0⟩
    clear hout hB0
    go_enter Try.func20, Try.ntmps20
    go_wp2_with fail
    refine (in_any _ _ _ _).mono ?_
    rw [hin]
    rintro r w1 ⟨rfl, rfl⟩
    go_wp2
    refine bodyPost_ret (v := .tuple #[.agg #[.slice none 0 0], .int .i64 2]) (results_ct Try.results20 rfl rfl (load_row (P := Try.prog) (cs := [.slice none 0 0]) HH.out.2 Try.underlying33 rfl (by kernel_rfl))) rfl ?_
    rw [HH.out.1]
    exact ⟨none, 0, rfl, World.ownsRow_nil _ _ _ _, below_newC w⟩
  · obtain ⟨h1, h2⟩ := of_decide_eq_true hin
    have hout : makeOut n = (List.replicate n.toNat (0, false, 0, 0), 0) := by unfold makeOut; rw [if_pos ⟨h1, h2⟩]
    obtain ⟨z, rfl⟩ := Int.eq_ofNat_of_zero_le (a := n) (by omega)
    rw [Int.toNat_natCast] at hout
    have HO : Hid _ := hout
    clear hout hB0
    obtain ⟨W0, hW0⟩ : ∃ W0, W0 = (w.alloc (.cells #[.slice none 0 0] 33)).alloc (.cells #[.slice none 0 0] 33) := ⟨_, rfl⟩
    have hb0 : Below w.heap.size w W0 := by rw [hW0]; exact ((Below.refl _ _).alloc (Nat.le_refl _) _).alloc (by simp) _
    have hR0 : W0.heap[w.heap.size]? = some (.cells #[.slice none 0 0] 33 (0, 0)) := by rw [hW0]; exact heap_old _ _ (heap_alloc_new _ _)
    have hO0 : W0.heap[w.heap.size + 1]? = some (.cells #[.slice none 0 0] 33 (0, 0)) := by rw [hW0]; exact heap_second _ _ _
    have hs0 : W0.heap.size = w.heap.size + 2 := by rw [hW0]; simp
    have HV : Hid (_ ∧ _ ∧ _ ∧ _) := ⟨hb0, hR0, hO0, hs0⟩
    go_enter Try.func20, Try.ntmps20
    go_wp2_with fail
    refine (in_any _ _ _ _).mono ?_
    rw [hin]
    rintro r w1 ⟨rfl, rfl⟩
    go_wp2
    rw [← hW0]
    clear hb0 hR0 hO0 hs0 hW0 hin
    go_loopw [5] (fun s5 wr => ∃ (k : Nat) (p' : Option Addr) (c' : Nat), s5 = .int .i64 k ∧ k ≤ z ∧ wr.heap[w.heap.size + 1]? = some (.cells #[.slice p' k c'] 33 (0, 0)) ∧ wr.ownsRow (w.heap.size + 2) 88 4 (.slice p' k c') k (scells (List.replicate k (0, false, 0, 0))) ∧ Below (w.heap.size + 1) W0 wr ∧ W0.heap.size ≤ wr.heap.size) (fun s5 _ => z - (intOf s5).toNat)
    case atStart => exact ⟨0, none, 0, rfl, Nat.zero_le _, HV.out.2.2.1, World.ownsRow_nil _ _ _ _, Below.refl _ _, Nat.le_refl _⟩
    case round =>
      obtain ⟨k, p', c', rfl, hk, hO, ho, hbr, hsr⟩ := hrel
      have hs0 := HV.out.2.2.2
      have hR := (hbr.block (w.heap.size) (by omega)).trans HV.out.2.1
      have o0 := one_cell hO
      have of0 : wr.frozen? ⟨w.heap.size + 1, 0, none⟩ = false := by simp [World.frozen?, hO]
      have r0 := one_cell hR
      have rf0 : wr.frozen? ⟨w.heap.size, 0, none⟩ = false := by simp [World.frozen?, hR]
      have hltS : w.heap.size + 1 < wr.heap.size := by omega
      have hbw : Below w.heap.size w wr := HV.out.1.trans (hbr.mono (by omega))
      by_cases hlt : k < z
      · have hkI : (k : Int) < (z : Int) := by omega
        obtain ⟨q, d, w', hr, z0, z1, z2, z3, z4, z5⟩ := next_slot 0 false 0 0 hO ho (by omega) hbr (by omega) (by omega) (m' := List.replicate (k + 1) (0, false, 0, 0)) (by rw [List.replicate_succ'])
        have HR : Hid (_ ∧ _ ∧ _ ∧ _ ∧ _) := ⟨hr, z2, z3, z4, z5⟩
        clear hr z2 z3 z4 z5 hR hO ho hbr hbw
        go_wp2_with (at_builtin; (with_reducible refine wpList_append_eq rfl _ _ 31 rfl (.slice p' k c') (.slice (some ⟨wr.heap.size, 0, none⟩) 1 1) (.slice q (k + 1) d) w' ?hs ?hx ?hr ?_); (case hs => rfl); (case hx => rfl); (case hr => exact HR.out.1))
        go_roundw
        case rel => exact ⟨k + 1, q, d, by simp, hlt, HR.out.2.1, HR.out.2.2.1, HR.out.2.2.2.1, Nat.le_trans hsr HR.out.2.2.2.2⟩
        case measure => simp [intOf]; omega
      · obtain rfl : k = z := by omega
        have hR' := one_set (v := .slice p' k c') hR
        have ho' : (wr.setCell ⟨w.heap.size, 0, none⟩ (.slice p' k c')).ownsRow w.heap.size 88 4 (.slice p' k c') k (scells (List.replicate k (0, false, 0, 0))) := (own_block ho (fun g hg => Below.heap_setCell _ _ _ _ (by have := (ho.lt g hg).1; simp; omega))).mono (by omega)
        have hb' : Below w.heap.size w (wr.setCell ⟨w.heap.size, 0, none⟩ (.slice p' k c')) := hbw.setCell (by simp) _
        have HR : Hid (_ ∧ _ ∧ _) := ⟨hR', ho', hb'⟩
        clear hR' ho' hb' hR hO ho hbr hbw
        go_wp2
        refine bodyPost_ret (v := .tuple #[.agg #[.slice p' k c'], .int .i64 0]) (results_ct Try.results20 rfl rfl (load_row (P := Try.prog) (cs := [.slice p' k c']) HR.out.1 Try.underlying33 rfl (by kernel_rfl))) rfl ?_
        rw [HO.out]
        refine ⟨p', c', ?_, ?_, HR.out.2.2⟩
        · simp
        · simpa using HR.out.2.1

end

section
def mineB (bk : Int) (t : Sl) : Bool := t.2.1 && (t.2.2.2 == bk)

end

section
def IntsAt (w : World) (v : Value) (a : List Int) : Prop := RowAt w v a.length (icells a)

theorem icells_at (a : List Int) (i : Nat) (h : i < a.length) : (icells a)[i]? = some (.int .i64 a[i]) := by
  unfold icells
  rw [List.getElem?_map, List.getElem?_eq_getElem h]
  rfl

theorem IntsAt.parts {w : World} {v : Value} {l : List Int} (h : IntsAt w v l) :
    ∃ a cap, v = .slice a l.length cap ∧ l.length ≤ cap ∧ cap ≤ maxLen ∧ ∀ i (hi : i < l.length), ∃ b off, a = some ⟨b, off, none⟩ ∧ b < w.heap.size ∧ w.cell? ⟨b, off + i, none⟩ = some (.int .i64 l[i]) := by
  obtain ⟨a, cap, hv, hc, hm, h1 | ⟨b, off, h1, h2, h3⟩⟩ := h
  · exact ⟨a, cap, hv, hc, hm, fun i hi => absurd hi (by omega)⟩
  · refine ⟨a, cap, hv, hc, hm, fun i hi => ⟨b, off, h1, h2, ?_⟩⟩
    rw [h3 i (by rw [icells_len]; exact hi)]
    exact icells_at l i hi

end

section
abbrev En := Tm × Bool × Int

def owns (b : Int) (e : En) : Bool := e.2.1 && (e.2.2 == b)

def EnOk (T : List Sl) (e : En) : Prop := ∃ (s : Nat) (t : Sl), e.1.1 = (s : Int) ∧ T[s]? = some t ∧ (e.2.1 = true → t.2.1 = true ∧ t.1 = e.1.2 ∧ t.2.2.2 = e.2.2) ∧ (e.2.1 = false → e.1.2 < t.1)

structure Inv (i : Nat) (T : List Sl) (E : List En) : Prop where
  ok : TabOk T
  gens : ∀ t ∈ T, t.1 ≤ i
  each : ∀ e ∈ E, EnOk T e
  once : (E.map (·.1)).Nodup
  cnt : ∀ b, T.countP (mineB b) = E.countP (owns b)
  few : E.length ≤ i

theorem Inv.mono {i j : Nat} {T : List Sl} {E : List En} (h : Inv i T E) (hij : i ≤ j) : Inv j T E :=
  ⟨h.ok, fun t ht => by have := h.gens t ht; omega, h.each, h.once, h.cnt, by have := h.few; omega⟩

end

section
def bcells (l : List Bool) : List Value := l.map Value.bool

def hsE (E : List En) : List Tm := E.map fun e => e.1

def gdE (E : List En) : List Bool := E.map fun e => e.2.1

def atE (E : List En) : List Int := E.map fun e => e.2.2

def Apart (a b : Option Nat) : Prop := ∀ g, a = some g → b ≠ some g

theorem Apart.symm {a b : Option Nat} (h : Apart a b) : Apart b a := fun g hb ha => h g ha hb

structure Rws (B g9 : Nat) (vT vH vG vA : Value) (T : List Sl) (E : List En) (w : World) : Prop where
  box : w.heap[g9]? = some (.cells #[vT] 33 (0, 0))
  rT : w.ownsRow B 88 4 vT T.length (scells T)
  rH : w.ownsRow B 73 2 vH E.length (tcells (hsE E))
  rG : w.ownsRow B 4 1 vG E.length (bcells (gdE E))
  rA : w.ownsRow B 3 1 vA E.length (icells (atE E))
  dT : Apart vT.ownBlock (some g9)
  dH : Apart vH.ownBlock (some g9)
  dG : Apart vG.ownBlock (some g9)
  dA : Apart vA.ownBlock (some g9)
  dTH : Apart vT.ownBlock vH.ownBlock
  dTG : Apart vT.ownBlock vG.ownBlock
  dTA : Apart vT.ownBlock vA.ownBlock
  dHG : Apart vH.ownBlock vG.ownBlock
  dHA : Apart vH.ownBlock vA.ownBlock
  dGA : Apart vG.ownBlock vA.ownBlock
  big : B ≤ w.heap.size

section

variable {B g9 : Nat} {vT vH vG vA : Value} {T : List Sl} {E : List En} {w w' : World}

theorem Rws.lt (h : Rws B g9 vT vH vG vA T E w) : g9 < w.heap.size := (Array.getElem?_eq_some_iff.1 h.box).1

end

section

variable {B g9 : Nat} {vT vH vG vA : Value} {T : List Sl} {E : List En} {w w' : World}

end

end

section
abbrev St := Int × Int × Int

def qcells : List St → List Value
  | [] => []
  | t :: l => .int .i64 t.1 :: .int .i64 t.2.1 :: .int .i64 t.2.2 :: qcells l

theorem qcells_len : ∀ l : List St, (qcells l).length = l.length * 3
  | [] => rfl
  | t :: l => by simp [qcells, qcells_len l]; omega

theorem qcells_at : ∀ (l : List St) (i : Nat) (h : i < l.length), (qcells l)[i * 3]? = some (.int .i64 l[i].1) ∧ (qcells l)[i * 3 + 1]? = some (.int .i64 l[i].2.1) ∧ (qcells l)[i * 3 + 2]? = some (.int .i64 l[i].2.2)
  | t :: l, 0, _ => by simp [qcells]
  | t :: l, i + 1, h => by
    have h2 := qcells_at l i (by simpa using h)
    rw [show (i + 1) * 3 = i * 3 + 1 + 1 + 1 by omega]
    simpa [qcells] using h2

def StAt (w : World) (v : Value) (l : List St) : Prop := RowAt w v l.length (qcells l)

theorem StAt.parts {w : World} {v : Value} {l : List St} (h : StAt w v l) :
    ∃ a cap, v = .slice a l.length cap ∧ l.length ≤ cap ∧ cap ≤ maxLen ∧ ∀ i (hi : i < l.length), ∃ b off, a = some ⟨b, off, none⟩ ∧ b < w.heap.size ∧ w.cell? ⟨b, off + i * 3, none⟩ = some (.int .i64 l[i].1) ∧ w.cell? ⟨b, off + i * 3 + 1, none⟩ = some (.int .i64 l[i].2.1) ∧ w.cell? ⟨b, off + i * 3 + 2, none⟩ = some (.int .i64 l[i].2.2) := by
  obtain ⟨a, cap, hv, hc, hm, h1 | ⟨b, off, h1, h2, h3⟩⟩ := h
  · exact ⟨a, cap, hv, hc, hm, fun i hi => absurd hi (by omega)⟩
  · refine ⟨a, cap, hv, hc, hm, fun i hi => ⟨b, off, h1, h2, ?_, ?_, ?_⟩⟩
    · rw [h3 (i * 3) (by rw [qcells_len]; omega)]; exact (qcells_at l i hi).1
    · rw [Nat.add_assoc, h3 (i * 3 + 1) (by rw [qcells_len]; omega)]; exact (qcells_at l i hi).2.1
    · rw [Nat.add_assoc, h3 (i * 3 + 2) (by rw [qcells_len]; omega)]; exact (qcells_at l i hi).2.2

end

section
def Sits (w : World) (g9 N : Nat) (k : Nat) (qT pH pG pA : Option Addr) (dT cH cG cA : Nat) (T : List Sl) (E : List En) (wr : World) : Prop :=
  Inv k T E ∧ T.length = N ∧ Rws (w.heap.size + 1) g9 (.slice qT N dT) (.slice pH E.length cH) (.slice pG E.length cG) (.slice pA E.length cA) T E wr ∧ wr.heap[w.heap.size]? = some (.cells #[.slice none 0 0] 33 (0, 0)) ∧ Below w.heap.size w wr

theorem Sits.lt {w : World} {g9 N k : Nat} {qT pH pG pA : Option Addr} {dT cH cG cA : Nat} {T : List Sl} {E : List En} {wr : World} (h : Sits w g9 N k qT pH pG pA dT cH cG cA T E wr) : w.heap.size < wr.heap.size := (Array.getElem?_eq_some_iff.1 h.2.2.2.1).1

end

end Go.Proofs.Ytlphohahijeimaa.Tb
