/-
  The program's Read: whatever the text, the events of its lines, or what is wrong and where. Condition: the words, the table of powers of ten and the two errors are as their initialisers lay them.
-/
import Derived.Test.YtkefdbnnfcfmjaaDoorEvo
import Derived.Test.YtkefdbnnfcfmjaaDoorIt
import Derived.Maps.AppendAt
import Derived.WalkKit
import Derived.ProofKit
import Derived.Handy
import Derived.LoopTactic
import Derived.Below
import Derived.Laws.BitsAllLaws
import Derived.RegionTactic
import Derived.Deep.RegionHeld3
import Derived.Deep.DrawnRows
import Derived.Deep.AppendLies
import Derived.Laws.OwnMore
import Derived.Deep.Onto
import Derived.Deep.QuietTactic
import Derived.BigQuiet
namespace Go.Proofs.YtkefdbnnfcfmjaaDoor.Walks
open Go.RowKit
open Go.Proofs.YtkefdbnnfcfmjaaDoor.Plain
set_option linter.unusedVariables false
set_option linter.unusedSimpArgs false
attribute [local go_sem ↓] Go.wp_at_zero Go.wp_at_succ
open Go.Shelf
attribute [local go_sem] Oper.semAt_some

/-- One line more. -/
def stepB (acc : Sum (Int × Nat) (List Ev)) (x : Nat × ByteArray) : Sum (Int × Nat) (List Ev) :=
  match acc with
  | .inl e => .inl e
  | .inr l => if 4000 ≤ x.1 then .inl (9, x.1) else match evP x.2.data.toList with
    | none => .inl (3, x.1)
    | some e => .inr (l ++ [e])

def procB (xs : List (Nat × ByteArray)) : Sum (Int × Nat) (List Ev) := xs.foldl stepB (.inr [])

theorem step_inl (e : Int × Nat) : ∀ xs : List (Nat × ByteArray), xs.foldl stepB (.inl e) = .inl e
  | [] => rfl
  | x :: xs => by rw [List.foldl_cons]; exact step_inl e xs

theorem proc_read : ∀ (xs : List ByteArray) (k : Nat) (acc : List Ev), (nbd k xs).foldl stepB (.inr acc) = readF k acc (xs.map (·.data.toList))
  | [], k, acc => rfl
  | x :: xs, k, acc => by
    rw [nbd, List.foldl_cons, List.map_cons, readF]
    by_cases hk : 4000 ≤ k
    · rw [if_pos hk, show stepB (.inr acc) (k, x) = .inl (9, k) by unfold stepB; simp only; rw [if_pos hk]]
      exact step_inl _ _
    · rw [if_neg hk]
      cases he : evP x.data.toList with
      | none =>
        rw [show stepB (.inr acc) (k, x) = .inl (3, k) by unfold stepB; simp only; rw [if_neg hk, he]]
        exact step_inl _ _
      | some e =>
        rw [show stepB (.inr acc) (k, x) = .inr (acc ++ [e]) by unfold stepB; simp only; rw [if_neg hk, he]]
        exact proc_read xs (k + 1) (acc ++ [e])

theorem lnsB_data (b : ByteArray) : (lnsB b).map (·.data.toList) = lns b.data.toList := by
  unfold lnsB; rw [List.map_map]; simp [Function.comp_def]

theorem proc_all {tx : ByteArray} (h : tx.size ≤ 200000) : procB (nbd 0 (lnsB tx)) = readT tx.data.toList := by
  unfold procB readT
  rw [proc_read, lnsB_data, if_neg (by rw [← Lib.size_eq]; omega)]

theorem proc_stop {pre xs : List (Nat × ByteArray)} {e : Int × Nat} (hp : pre <+: xs) (h : procB pre = .inl e) : procB xs = .inl e := by
  obtain ⟨r, rfl⟩ := hp
  unfold procB at *
  rw [List.foldl_append, h, step_inl]

set_option maxHeartbeats 400000 in
theorem linesOf_any (tx : ByteArray) (w : World) : Calls Tryd.prog 23 #[.string tx] w fun r w' => r = .returned (.func (.func 39) #[] #[.pointer (some ⟨w.heap.size, 0, none⟩)]) ∧ w' = w.alloc (.cells #[.string tx] 9) := by
  go_enter Tryd.func23, Tryd.ntmps23
  go_wp2
  go_ret
  exact ⟨rfl, rfl⟩

theorem lines_stops (n : Nat) (hn : 1 ≤ n) (Bt : Nat) (tx : ByteArray) (ht : tx.size ≤ 200000) (w : World) (hBt : w.cell? ⟨Bt, 0, none⟩ = some (.string tx)) (hlt : Bt < w.heap.size) :
    SeqStopsK Fence.wide n Tryd.prog 39 #[.pointer (some ⟨Bt, 0, none⟩)] (fun x : Ln => #[Value.int .i64 (x.1.1 : Int), Value.string x.1.2]) (fun _ _ => True) (fun ys => ys.map (·.1) = nbd 0 (lnsB tx)) (fun pre => pre.map (·.1) <+: nbd 0 (lnsB tx)) tx.size w := fun l J Jx W hW hJ _ hY h0 =>
  lines_in n hn l Bt tx ht J Jx hY W ((hW.cell (p := ⟨Bt, 0, none⟩) hlt).trans hBt) h0

def ReadPost (t : List UInt8) (w : World) (r : Ending) (w' : World) : Prop :=
  Below w.heap.size w w' ∧ ((∃ c p, readT t = .inl (c, p) ∧ r = .returned (.tuple #[.slice none 0 0, .int .i64 (p : Int), .int .i64 c])) ∨ (∃ l v, readT t = .inr l ∧ r = .returned (.tuple #[v, .int .i64 0, .int .i64 0]) ∧ w'.ownsRow w.heap.size 34 8 v l.length (Rv.rv evV l)))

theorem keepC {W W' : World} {row : Option Nat} {k : Nat} {cs : Array Value} {t : TypeId} {f : Nat × Nat} (h : W.heap[k]? = some (.cells cs t f)) (hg : W.grownBy W' row) (hr : ∀ r, row = some r → ∃ o : Obj, W.heap[r]? = some o ∧ o.isCells = false) : W'.heap[k]? = W.heap[k]? := by
  refine hg.block k (Array.getElem?_eq_some_iff.1 h).1 (fun e => ?_)
  obtain ⟨o, ho, hc⟩ := hr k e.symm
  rw [h] at ho
  cases ho
  cases hc

theorem own_blk {w w' : World} {base n k : Nat} {e : TypeId} {v : Value} {cs : List Value} (h : w.ownsRow base e k v n cs) (hb : ∀ g, v.ownBlock = some g → w'.heap[g]? = w.heap[g]?) : w'.ownsRow base e k v n cs := by
  obtain ⟨h1, h | ⟨g, cap, cur, rfl, h3, h4, h5⟩⟩ := h
  · exact ⟨h1, .inl h⟩
  · exact ⟨h1, .inr ⟨g, cap, cur, rfl, h3, by rw [hb g rfl]; exact h4, h5⟩⟩

/-- The three boxes of the results. -/
def Res3 (g : Nat) (v : Value) (p c : Int) (W : World) : Prop := Boxed W g 22 v ∧ Boxed W (g + 1) 3 (.int .i64 p) ∧ Boxed W (g + 1 + 1) 24 (.int .i64 c)

/-- Between two lines. -/
def Rin (w WL : World) (pre : List Ln) (W : World) : Prop :=
  (∃ out v, procB (pre.map (·.1)) = .inr out ∧ out.length ≤ pre.length ∧ Boxed W (w.heap.size + 1 + 1 + 1) 22 v ∧ W.ownsRow WL.heap.size 34 8 v out.length (Rv.rv evV out)) ∧ Res3 w.heap.size (.slice none 0 0) 0 0 W ∧ Below w.heap.size w W ∧ WL.heap.size ≤ W.heap.size

/-- Behind a line that is wrong. -/
def Rex (w WL : World) (c : Code) (pre : List Ln) (W : World) : Prop :=
  c = .ret ∧ (∃ e p, procB (pre.map (·.1)) = .inl (e, p) ∧ Res3 w.heap.size (.slice none 0 0) (p : Int) e W) ∧ Below w.heap.size w W ∧ WL.heap.size ≤ W.heap.size

theorem Res3.keep {g : Nat} {v : Value} {p c : Int} {W W' : World} {row : Option Nat} (h : Res3 g v p c W) (hg : W.grownBy W' row) (hr : ∀ r, row = some r → ∃ o : Obj, W.heap[r]? = some o ∧ o.isCells = false) : Res3 g v p c W' :=
  ⟨(keepC h.1 hg hr).trans h.1, (keepC h.2.1 hg hr).trans h.2.1, (keepC h.2.2 hg hr).trans h.2.2⟩

theorem rin_own (w WL : World) (hsz : w.heap.size ≤ WL.heap.size) : OwnFrom WL.heap.size (Rin w WL) := by
  rintro pre W W' row ⟨⟨out, v, h1, h2, hb, ho⟩, h3, hB, hs⟩ hg hr
  have hr2 : ∀ r, row = some r → ∃ o : Obj, W.heap[r]? = some o ∧ o.isCells = false := fun r e => (hr r e).2
  refine ⟨⟨out, v, h1, h2, (keepC hb hg hr2).trans hb, own_blk ho (fun g hg' => ?_)⟩, h3.keep hg hr2, hB.grown hg hB.size (fun k e => Nat.le_trans hsz (hr k e).1), Nat.le_trans hs hg.size⟩
  rcases ho.2 with ⟨rfl, _⟩ | ⟨g2, cap, cur, rfl, _, hgb, _⟩
  · cases hg'
  · have e : g2 = g := by simpa [Value.ownBlock] using hg'
    subst e
    exact keepC hgb hg hr2

theorem rex_own (w WL : World) (hsz : w.heap.size ≤ WL.heap.size) (c : Code) : OwnFrom WL.heap.size (Rex w WL c) := by
  rintro pre W W' row ⟨hc, ⟨e, p, h1, h3⟩, hB, hs⟩ hg hr
  have hr2 : ∀ r, row = some r → ∃ o : Obj, W.heap[r]? = some o ∧ o.isCells = false := fun r e => (hr r e).2
  exact ⟨hc, ⟨e, p, h1, h3.keep hg hr2⟩, hB.grown hg hB.size (fun k e => Nat.le_trans hsz (hr k e).1), Nat.le_trans hs hg.size⟩

theorem results_ccc {fn : Func} {x y z : Tmp} {t u s : TypeId} (h : fn.results = #[.cell x t, .cell y u, .cell z s]) {tmps : Array Value} {P : Program} {w : World} {p q r : Addr} {v1 v2 v3 : Value} (hx : tmps.getD x undef = .pointer (some p)) (hy : tmps.getD y undef = .pointer (some q)) (hz : tmps.getD z undef = .pointer (some r))
    (h1 : (loadVar t p).run P w = .ok v1 w) (h2 : (loadVar u q).run P w = .ok v2 w) (h3 : (loadVar s r).run P w = .ok v3 w) : (results fn tmps).run P w = .ok (.tuple #[v1, v2, v3]) w := by
  have e1 : ∀ a : Addr, (asAddr (.pointer (some a))).run P w = .ok a w := fun a => rfl
  simp only [Array.getD_eq_getD_getElem?] at hx hy hz
  simp [results, h, hx, hy, hz, e1, h1, h2, h3, Sem.run_bind]

theorem box_new {w : World} {k : Nat} (hk : w.heap.size = k) (v : Value) (t : TypeId) : Boxed (w.alloc (.cells #[v] t)) k t v := by
  subst hk; exact heap_new w _
theorem box_old {w : World} {g : Nat} {t : TypeId} {v : Value} (h : Boxed w g t v) (o : Obj) : Boxed (w.alloc o) g t v := (Below.heap_alloc _ _ _ h.lt).trans h

theorem news2 (w1 : World) (A : Obj) (cs : List Value) (T : TypeId) : ∀ j u, cs[j]? = some u → ((w1.alloc A).alloc (.cells cs.toArray T)).cell? ((⟨w1.heap.size + 1, 0, none⟩ : Addr).add j) = some u := by
  intro j u hu
  have := Rv.news_at (w1.alloc A) cs T j u hu
  rw [World.size_alloc] at this
  exact this

theorem box_put {W : World} {g D : Nat} {t : TypeId} {v : Value} (h : Boxed W g t v) (hne : g ≠ D) (o : Obj) : Boxed (W.putObj D o) g t v := (World.putObj_heap_other hne).trans h

theorem l22 {w : World} {g : Nat} {v : Value} (h : w.cell? ⟨g, 0, none⟩ = some v) : (loadVar 22 ⟨g, 0, none⟩).run Tryd.prog w = .ok v w := by
  simp [loadVar, h, go_sem]
theorem l3 {w : World} {g : Nat} {v : Value} (h : w.cell? ⟨g, 0, none⟩ = some v) : (loadVar 3 ⟨g, 0, none⟩).run Tryd.prog w = .ok v w := by
  simp [loadVar, h, go_sem]
theorem l24 {w : World} {g : Nat} {v : Value} (h : w.cell? ⟨g, 0, none⟩ = some v) : (loadVar 24 ⟨g, 0, none⟩).run Tryd.prog w = .ok v w := by
  simp [loadVar, h, go_sem]

theorem keeps_of {N : Nat} {W W' : World} (hs : W.heap.size ≤ W'.heap.size) (h : ∀ (k : Nat) (o : Obj), W.heap[k]? = some o → o.isCells = false → W'.heap[k]? = some o) : KeepsFrom N W W' :=
  ⟨hs, fun k o _ h2 h3 => h k o h2 h3⟩

theorem box_set {W : World} {g : Nat} {t : TypeId} {v : Value} (h : Boxed W g t v) (u : Value) : Boxed (W.setCell ⟨g, 0, none⟩ u) g t u := by
  unfold Boxed at *
  simp only [World.setCell, Array.getElem?_modify, h, if_true, Option.map_some]
  rfl

theorem box_far {W : World} {g g' : Nat} {t : TypeId} {v : Value} (h : Boxed W g t v) (hne : g' ≠ g) (o : Nat) (u : Value) : Boxed (W.setCell ⟨g', o, none⟩ u) g t v :=
  (Below.heap_setCell _ _ _ _ (fun e => hne e.symm)).trans h

theorem rd_step {w WL W W2 w4 : World} {out : List Ev} {e : Ev} {v v' : Value} {pre : List Ln} {x : Ln} {tmp : Obj}
    (h5 : w.heap.size + 1 + 1 + 1 < WL.heap.size) (hb : Below W.heap.size W W2) (hbox : Boxed W (w.heap.size + 1 + 1 + 1) 22 v) (ho : W.ownsRow WL.heap.size 34 8 v out.length (Rv.rv evV out)) (h3 : Res3 w.heap.size (.slice none 0 0) 0 0 W) (hB : Below w.heap.size w W) (hs : WL.heap.size ≤ W.heap.size)
    (hown : w4.ownsRow WL.heap.size 34 8 v' (out.length + 1) (Rv.rv evV out ++ evV e)) (hg : (W2.alloc tmp).grownBy w4 v.ownBlock) (hp : procB ((pre ++ [x]).map (·.1)) = .inr (out ++ [e])) (hl : out.length ≤ pre.length) :
    Boxed w4 (w.heap.size + 1 + 1 + 1) 22 v ∧ Rin w WL (pre ++ [x]) (w4.setCell ⟨w.heap.size + 1 + 1 + 1, 0, none⟩ v') ∧ KeepsFrom WL.heap.size W (w4.setCell ⟨w.heap.size + 1 + 1 + 1, 0, none⟩ v') := by
  have hs2 := hb.size
  have hgs := hg.size
  simp at hgs
  have hk : ∀ k, k < W.heap.size → v.ownBlock ≠ some k → w4.heap[k]? = W.heap[k]? := fun k h1 h2 => ((hg.block k (by simp; omega) (fun e => h2 e.symm)).trans (Below.heap_alloc _ _ _ (by omega))).trans (hb.block k h1)
  have hrow : ∀ k, k < WL.heap.size → v.ownBlock ≠ some k := fun k h e => by have := (ho.lt k e).1; omega
  have hx4 : Boxed w4 (w.heap.size + 1 + 1 + 1) 22 v := (hk _ (by omega) (hrow _ h5)).trans hbox
  have hfar : ∀ k, k ≠ w.heap.size + 1 + 1 + 1 → (w4.setCell ⟨w.heap.size + 1 + 1 + 1, 0, none⟩ v').heap[k]? = w4.heap[k]? := fun k h1 => Below.heap_setCell _ _ _ _ (by simpa using h1)
  have hbA : Below w.heap.size w (W2.alloc tmp) := (hB.trans (hb.mono hB.size)).alloc (hB.trans (hb.mono hB.size)).size tmp
  have hbw : Below w.heap.size w w4 := hbA.grown hg hbA.size (fun k e => by have := (ho.lt k e).1; omega)
  refine ⟨hx4, ⟨⟨out ++ [e], v', hp, by simp; omega, box_set hx4 v', ?_⟩, ⟨?_, ?_, ?_⟩, hbw.setCell (by simp; omega) _, by simp; omega⟩, keeps_of (by simp; omega) (fun k o h2 h3 => ?_)⟩
  · have e1 : Rv.rv evV (out ++ [e]) = Rv.rv evV out ++ evV e := by rw [Rv.rv_append]; simp [Rv.rv]
    rw [e1, List.length_append]
    exact own_blk hown (fun g hg' => hfar g (by have := (hown.lt g hg').1; omega))
  · exact ((hfar _ (by omega)).trans (hk _ (by omega) (hrow _ (by omega)))).trans h3.1
  · exact ((hfar _ (by omega)).trans (hk _ (by omega) (hrow _ (by omega)))).trans h3.2.1
  · exact ((hfar _ (by omega)).trans (hk _ (by omega) (hrow _ (by omega)))).trans h3.2.2
  · have hlt := (Array.getElem?_eq_some_iff.1 h2).1
    have hne : k ≠ w.heap.size + 1 + 1 + 1 := fun e => by subst e; rw [show W.heap[w.heap.size + 1 + 1 + 1]? = _ from hbox] at h2; cases h2; cases h3
    rw [hfar k hne]
    refine (hk k hlt (fun e => ?_)).trans h2
    rcases ho.2 with ⟨rfl, _⟩ | ⟨g, cap, cur, rfl, _, hgb, _⟩
    · cases e
    · have e2 : g = k := by simpa [Value.ownBlock] using e
      subst e2
      rw [h2] at hgb
      cases hgb
      cases h3

/-- The three results set, where a line is wrong. -/
theorem rd_stop {w WL W W1 : World} {pre : List Ln} {c : Int} {p : Nat} (h5 : w.heap.size + 1 + 1 + 1 < WL.heap.size) (hb : Below W.heap.size W W1) (h3 : Res3 w.heap.size (.slice none 0 0) 0 0 W) (hB : Below w.heap.size w W) (hs : WL.heap.size ≤ W.heap.size) (hp : procB (pre.map (·.1)) = .inl (c, p)) :
    Rex w WL .ret pre (((W1.setCell ⟨w.heap.size, 0, none⟩ (.slice none 0 0)).setCell ⟨w.heap.size + 1, 0, none⟩ (.int .i64 (p : Int))).setCell ⟨w.heap.size + 1 + 1, 0, none⟩ (.int .i64 c)) ∧
      KeepsFrom WL.heap.size W (((W1.setCell ⟨w.heap.size, 0, none⟩ (.slice none 0 0)).setCell ⟨w.heap.size + 1, 0, none⟩ (.int .i64 (p : Int))).setCell ⟨w.heap.size + 1 + 1, 0, none⟩ (.int .i64 c)) := by
  have hs2 := hb.size
  have b1 : Boxed W1 w.heap.size 22 (.slice none 0 0) := (hb.block _ (by omega)).trans h3.1
  have b2 : Boxed W1 (w.heap.size + 1) 3 (.int .i64 0) := (hb.block _ (by omega)).trans h3.2.1
  have b3 : Boxed W1 (w.heap.size + 1 + 1) 24 (.int .i64 0) := (hb.block _ (by omega)).trans h3.2.2
  have hB1 := hB.trans (hb.mono hB.size)
  refine ⟨⟨rfl, ⟨c, p, hp, ?_, ?_, ?_⟩, ((hB1.setCell (p := ⟨w.heap.size, 0, none⟩) (Nat.le_refl _) _).setCell (p := ⟨w.heap.size + 1, 0, none⟩) (by simp) _).setCell (p := ⟨w.heap.size + 1 + 1, 0, none⟩) (by simp; omega) _, by simp; omega⟩, keeps_of (by simp; omega) (fun k o h2 h3' => ?_)⟩
  · exact box_far (box_far (box_set b1 _) (by omega) 0 _) (by omega) 0 _
  · exact box_far (box_set (box_far b2 (by omega) 0 _) _) (by omega) 0 _
  · exact box_set (box_far (box_far b3 (by omega) 0 _) (by omega) 0 _) _
  · have n1 : k ≠ w.heap.size := fun e => by subst e; rw [show W.heap[w.heap.size]? = _ from h3.1] at h2; cases h2; cases h3'
    have n2 : k ≠ w.heap.size + 1 := fun e => by subst e; rw [show W.heap[w.heap.size + 1]? = _ from h3.2.1] at h2; cases h2; cases h3'
    have n3 : k ≠ w.heap.size + 1 + 1 := fun e => by subst e; rw [show W.heap[w.heap.size + 1 + 1]? = _ from h3.2.2] at h2; cases h2; cases h3'
    rw [Below.heap_setCell _ _ _ _ (by simpa using n3), Below.heap_setCell _ _ _ _ (by simpa using n2), Below.heap_setCell _ _ _ _ (by simpa using n1), hb.block k (Array.getElem?_eq_some_iff.1 h2).1]
    exact h2

set_option maxHeartbeats 8000000 in
set_option maxRecDepth 100000 in
theorem read_any (tx : ByteArray) (w : World) (hG : Gr w) : Calls Tryd.prog 13 #[.string tx] w (ReadPost tx.data.toList w) := by
  have h9 := hG.1.2.2
  have HG := Lib.hid hG
  clear hG
  by_cases hbig : 200000 < tx.size
  · have hb' : (200000 : Int) < (tx.size : Int) := by omega
    refine (callsIn_wide (n := 3)).1 (callsIn_of_wp_marks Tryd.func13 rfl trivial (wpIn_wide.2 ?_) rfl)
    simp only [Tryd.ntmps13, List.size_toArray, List.length_cons, List.length_nil, Nat.reduceAdd, Nat.reduceSub, Array.replicate_succ, Array.replicate_zero, List.push_toArray, List.append_toArray, List.nil_append, List.cons_append]
    go_wp2
    refine ⟨_, results_ccc (p := ⟨w.heap.size, 0, none⟩) (q := ⟨w.heap.size + 1, 0, none⟩) (r := ⟨w.heap.size + 1 + 1, 0, none⟩) (v1 := .slice none 0 0) (v2 := .int .i64 0) (v3 := .int .i64 1) Tryd.results13 rfl rfl rfl (l22 (Boxed.cell (box_old (box_old (box_new rfl _ _) _) _))) (l3 (Boxed.cell (box_old (box_new (by simp) _ _) _))) (l24 (Boxed.cell (box_new (by simp) _ _))), ((((Below.refl w.heap.size w).alloc (Nat.le_refl _) _).alloc (by simp) _).alloc (by simp; omega) _), .inl ⟨1, 0, ?_, rfl⟩⟩
    unfold readT; rw [if_pos (by rw [← Lib.size_eq]; exact hbig)]
  · have hb' : ¬ (200000 : Int) < (tx.size : Int) := by omega
    refine (callsIn_wide (n := 3)).1 (callsIn_of_wp_marks Tryd.func13 rfl trivial (wpIn_wide.2 ?_) rfl)
    simp only [Tryd.ntmps13, List.size_toArray, List.length_cons, List.length_nil, Nat.reduceAdd, Nat.reduceSub, Array.replicate_succ, Array.replicate_zero, List.push_toArray, List.append_toArray, List.nil_append, List.cons_append]
    go_wp2_with fail
    refine (linesOf_any tx _).mono ?_
    rintro r w0 ⟨rfl, rfl⟩
    go_wp2
    obtain ⟨WL, hWL⟩ : ∃ WL, WL = ((((w.alloc (.cells #[.slice none 0 0] 22)).alloc (.cells #[.int .i64 0] 3)).alloc (.cells #[.int .i64 0] 24)).alloc (.cells #[.slice none 0 0] 22)).alloc (.cells #[.string tx] 9) := ⟨_, rfl⟩
    rw [← hWL]
    have hsL : WL.heap.size = w.heap.size + 1 + 1 + 1 + 1 + 1 := by rw [hWL]; simp
    have hBL : Below w.heap.size w WL := by rw [hWL]; exact (((((Below.refl w.heap.size w).alloc (Nat.le_refl _) _).alloc (by simp) _).alloc (by simp; omega) _).alloc (by simp; omega) _).alloc (by simp; omega) _
    have q1 : Boxed WL w.heap.size 22 (.slice none 0 0) := by rw [hWL]; exact box_old (box_old (box_old (box_old (box_new rfl _ _) _) _) _) _
    have q2 : Boxed WL (w.heap.size + 1) 3 (.int .i64 0) := by rw [hWL]; exact box_old (box_old (box_old (box_new (by simp) _ _) _) _) _
    have q3 : Boxed WL (w.heap.size + 1 + 1) 24 (.int .i64 0) := by rw [hWL]; exact box_old (box_old (box_new (by simp) _ _) _) _
    have q4 : Boxed WL (w.heap.size + 1 + 1 + 1) 22 (.slice none 0 0) := by rw [hWL]; exact box_old (box_new (by simp) _ _) _
    have q5 : WL.cell? ⟨w.heap.size + 1 + 1 + 1 + 1, 0, none⟩ = some (.string tx) := by rw [hWL]; exact Boxed.cell (box_new (by simp) _ _)
    clear hWL
    have HQ := Lib.hid (And.intro hBL (And.intro (⟨q1, q2, q3⟩ : Res3 w.heap.size (.slice none 0 0) 0 0 WL) (And.intro q4 q5)))
    clear hBL q1 q2 q3 q4 q5
    obtain ⟨i0, hi, hz0, hz1, hz2⟩ := info_parts infoEv
    refine (wpIn_wide (n := 3)).1 ?_
    refine wpIn_rangeFunc_ownH (F := Fence.wide) rfl (by omega) (gf := 39) (lb := #[.pointer (some ⟨w.heap.size + 1 + 1 + 1 + 1, 0, none⟩)]) rfl trivial (enters_of Tryd.func39 (by kernel_rfl) rfl)
      (lines_stops 2 (by omega) (w.heap.size + 1 + 1 + 1 + 1) tx (by omega) WL HQ.out.2.2.2 (by omega)) (fun _ _ => trivial) (fun W k o o' hk hW _ _ => trivial) (Below.refl _ _) (fun _ => rfl)
      (Rin w WL) (Rex w WL) (rin_own w WL (by omega)) (fun c => rex_own w WL (by omega) c)
      ⟨⟨[], _, rfl, Nat.le_refl _, HQ.out.2.2.1, World.ownsRow_nil _ _ _ _⟩, HQ.out.2.1, HQ.out.1, Nat.le_refl _⟩
      (fun x a' W => a' = { tmps := #[.string tx, undef, .pointer (some ⟨w.heap.size, 0, none⟩), .pointer (some ⟨w.heap.size + 1, 0, none⟩), .pointer (some ⟨w.heap.size + 1 + 1, 0, none⟩), .pointer (some ⟨w.heap.size + 1 + 1 + 1, 0, none⟩), .int .i64 (x.1.1 : Int), .string x.1.2, undef, undef, .string tx, .int .i64 (tx.size : Int), .bool false, .string tx, .func (.func 39) #[] #[.pointer (some ⟨w.heap.size + 1 + 1 + 1 + 1, 0, none⟩)], .int .i64 (x.1.1 : Int), .string x.1.2, undef, undef, undef, undef, undef, undef, undef, undef, undef, undef, undef, undef, undef, undef, undef, undef], defers := [] })
      (fun x a' _ X Y row hs hg hr => hs)
      ?assign ?body ?done ?stop
    case assign =>
      rintro lp pre x W K hC hK
      gi_wp2
      exact hK _ _ (keeps_of (Nat.le_refl _) (fun k o h _ => h)) trivial hC rfl
    case body =>
      rintro lp pre x a' W hlp _ hC rfl hlt
      obtain ⟨⟨out, v, hp, hol, hbox, ho⟩, h3, hB, hs⟩ := hC
      obtain ⟨vp, vc, rfl⟩ := Rv.own_form ho
      obtain ⟨⟨k, b⟩, hk2, hbz⟩ := x
      dsimp only at hk2 hbz ⊢
      have r1 := h3.1.cell; have r2 := h3.2.1.cell; have r3 := h3.2.2.cell
      have s1 := h3.1.frozen; have s2 := h3.2.1.frozen; have s3 := h3.2.2.frozen
      have hstep : procB ((pre ++ [(⟨(k, b), hk2, hbz⟩ : Ln)]).map (·.1)) = stepB (.inr out) (k, b) := by
        unfold procB at hp ⊢
        rw [List.map_append, List.foldl_append, hp]; rfl
      by_cases hk4 : 4000 ≤ k
      · have hk4' : (4000 : Int) ≤ (k : Int) := by omega
        have hst : procB ((pre ++ [(⟨(k, b), hk2, hbz⟩ : Ln)]).map (·.1)) = .inl (9, k) := by rw [hstep]; unfold stepB; simp only; rw [if_pos hk4]
        have HE := Lib.hid (rd_stop (w := w) (WL := WL) (by omega) (Below.refl _ W) h3 hB hs hst)
        clear hst hstep hp hbox ho h3
        gi_wp2
        exact ⟨HE.out.2, HE.out.1⟩
      · have hk4' : ¬ (4000 : Int) ≤ (k : Int) := by omega
        have hbe : (⟨b.data.toList.toArray⟩ : ByteArray) = b := by simp
        have hbl : b.data.toList.length ≤ 200000 := by rw [← Lib.size_eq]; exact hbz
        have hcal := eventOf_any b.data.toList hbl W (HG.out.below hB h9)
        rw [hbe] at hcal
        cases hE : evP b.data.toList with
        | none =>
          have hst : procB ((pre ++ [(⟨(k, b), hk2, hbz⟩ : Ln)]).map (·.1)) = .inl (3, k) := by rw [hstep]; unfold stepB; simp only; rw [if_neg hk4, hE]
          have hcal2 : Calls Tryd.prog 24 #[.string b] W fun r w1 => ∃ e : Ev, r = .returned (.tuple #[(.agg #[.int .i64 e.kind, .int .i64 e.key, .int .i64 e.slot, .int .i64 e.gen, .bool e.good, .int .i64 e.req, .int .i64 e.be, .int .i64 e.wt]), .bool false]) ∧ Hid (Below W.heap.size W w1 ∧ True) ∧ w1.cell? ⟨w.heap.size, 0, none⟩ = some (.slice none 0 0) ∧ w1.cell? ⟨w.heap.size + 1, 0, none⟩ = some (.int .i64 0) ∧ w1.cell? ⟨w.heap.size + 1 + 1, 0, none⟩ = some (.int .i64 0) ∧ w1.frozen? ⟨w.heap.size, 0, none⟩ = false ∧ w1.frozen? ⟨w.heap.size + 1, 0, none⟩ = false ∧ w1.frozen? ⟨w.heap.size + 1 + 1, 0, none⟩ = false ∧ w.heap.size < w1.heap.size ∧ w.heap.size + 1 < w1.heap.size ∧ w.heap.size + 1 + 1 < w1.heap.size := hcal.mono fun r w1 h => by
            obtain ⟨e, h1, _, h2⟩ := h
            rw [hE] at h1
            have k1 : Boxed w1 w.heap.size _ _ := Rv.box_below h3.1 h2
            have k2 : Boxed w1 (w.heap.size + 1) _ _ := Rv.box_below h3.2.1 h2
            have k3 : Boxed w1 (w.heap.size + 1 + 1) _ _ := Rv.box_below h3.2.2 h2
            exact ⟨e, h1, ⟨h2, trivial⟩, k1.cell, k2.cell, k3.cell, k1.frozen, k2.frozen, k3.frozen, k1.lt, k2.lt, k3.lt⟩
          have HC := Lib.hid (And.intro hcal2 (And.intro h3 (And.intro hB (And.intro hs hst))))
          clear hcal hcal2 hst hstep hp hbox ho h3 hE hbe r1 r2 r3 s1 s2 s3
          gi_wp2_with (first | (refine ⟨trivial, ?_⟩; gi_at_call 24; refine (CallsIn.inRound lp (callsIn_wide.2 HC.out.1)).mono ?_; rintro r w1 ⟨e, rfl, hb1, r1, r2, r3, s1, s2, s3, hlt1, hlt2, hlt3⟩))
          have he := rd_stop (w := w) (WL := WL) (by omega) hb1.out.1 HC.out.2.1 HC.out.2.2.1 HC.out.2.2.2.1 HC.out.2.2.2.2
          exact ⟨he.2.trans (keeps_of (by simp) (fun k o h _ => (Below.heap_alloc _ _ _ (Array.getElem?_eq_some_iff.1 h).1).trans h)), (rex_own w WL (by omega) .ret).alloc _ he.1⟩
        | some e =>
          have hst : procB ((pre ++ [(⟨(k, b), hk2, hbz⟩ : Ln)]).map (·.1)) = .inr (out ++ [e]) := by rw [hstep]; unfold stepB; simp only; rw [if_neg hk4, hE]
          have hcal2 : Calls Tryd.prog 24 #[.string b] W fun r w1 => r = .returned (.tuple #[(.agg #[.int .i64 e.kind, .int .i64 e.key, .int .i64 e.slot, .int .i64 e.gen, .bool e.good, .int .i64 e.req, .int .i64 e.be, .int .i64 e.wt]), .bool true]) ∧ Hid (Below W.heap.size W w1 ∧ True) ∧ w1.cell? ⟨w.heap.size + 1 + 1 + 1, 0, none⟩ = some (.slice vp out.length vc) ∧ w.heap.size + 1 + 1 + 1 < w1.heap.size := hcal.mono fun r w1 h => by
            obtain ⟨e1, h1, h4, h2⟩ := h
            have e1e := h4 e hE
            subst e1e
            rw [hE] at h1
            have k1 : Boxed w1 (w.heap.size + 1 + 1 + 1) _ _ := Rv.box_below hbox h2
            exact ⟨h1, ⟨h2, trivial⟩, k1.cell, k1.lt⟩
          have fin5 : ∀ (w1 w5 : World) (A B : Obj) {g' cap' : Nat}, Below W.heap.size W w1 → w5.ownsRow WL.heap.size 34 8 (.slice (some ⟨g', 0, none⟩) (out.length + 1) cap') (out.length + 1) (Rv.rv evV out ++ evV e) → ((w1.alloc A).alloc B).grownBy w5 (Value.slice vp out.length vc).ownBlock →
              w5.cell? ⟨w.heap.size + 1 + 1 + 1, 0, none⟩ = some (.slice vp out.length vc) ∧ w5.frozen? ⟨w.heap.size + 1 + 1 + 1, 0, none⟩ = false ∧ Hid (KeepsFrom WL.heap.size W (w5.setCell ⟨w.heap.size + 1 + 1 + 1, 0, none⟩ (.slice (some ⟨g', 0, none⟩) (out.length + 1) cap')) ∧ Rin w WL (pre ++ [(⟨(k, b), hk2, hbz⟩ : Ln)]) (w5.setCell ⟨w.heap.size + 1 + 1 + 1, 0, none⟩ (.slice (some ⟨g', 0, none⟩) (out.length + 1) cap'))) := by
            intro w1 w5 A B g' cap' hb4 hown5 hg5
            obtain ⟨t1, t2, t3⟩ := rd_step (by omega) (hb4.alloc hb4.size A) hbox ho h3 hB hs hown5 hg5 hst hol
            exact ⟨t1.cell, t1.frozen, t3, t2⟩
          have HC := Lib.hid (And.intro hcal2 (And.intro ho (And.intro hs fin5)))
          clear hcal hcal2 hst hstep hp hbox ho h3 hE hbe r1 r2 r3 s1 s2 s3 fin5
          gi_wp2_with (first | (refine ⟨trivial, ?_⟩; gi_at_call 24; refine (CallsIn.inRound lp (callsIn_wide.2 HC.out.1)).mono ?_; rintro r w1 ⟨rfl, hb1, r1, hlt1⟩) | (gi_at_builtin; refine wpListIn_append_own _ rfl _ _ 22 rfl WL.heap.size 34 i0 _ 8 64 Tryd.underlying22 hi hz0 hz1 hz2 rfl (by decide) (.slice vp out.length vc) out.length (Rv.rv evV out) rfl (((own_kept HC.out.2.1 hb1.out.1).alloc _).alloc _) ⟨w1.heap.size + 1, 0, none⟩ 1 1 (evV e) rfl rfl (news2 w1 _ (evV e) _) (ev1 e) (by unfold maxLen; omega) (by omega) (by have h1 := hb1.out.1.size; have h2 := HC.out.2.2.1; simp; omega) ?_; intro v5 w5 hown5 hg5 _; obtain ⟨g', cap', rfl⟩ := ownsRow_succ hown5; obtain ⟨c5, d5, Hend⟩ := HC.out.2.2.2 _ _ _ _ hb1.out.1 hown5 hg5))
          exact ⟨Hend.out.1, trivial, Hend.out.2⟩
    case done =>
      rintro D ys W hD hys ⟨⟨out, v, hp, hol, hbox, ho⟩, h3, hB, hs⟩ hK
      have hc := hbox.cell
      have r1 := h3.1.cell; have r2 := h3.2.1.cell; have r3 := h3.2.2.cell
      have s1 := h3.1.frozen; have s2 := h3.2.1.frozen; have s3 := h3.2.2.frozen
      obtain ⟨vp, vc, rfl⟩ := Rv.own_form ho
      have hall : readT tx.data.toList = .inr out := by rw [← proc_all (by omega), ← hys]; exact hp
      have HF := Lib.hid (And.intro ho (And.intro hB (And.intro hK (And.intro hD (And.intro hall (And.intro h3 hs))))))
      clear ho hB hK hD hall h3 hbox hys hp
      go_wp2
      obtain ⟨ho, hB, hK, hD, hall, h3, hs⟩ := HF.out
      obtain ⟨W3, hW3⟩ : ∃ W3, W3 = ((W.setCell ⟨w.heap.size, 0, none⟩ (.slice vp out.length vc)).setCell ⟨w.heap.size + 1, 0, none⟩ (.int .i64 0)).setCell ⟨w.heap.size + 1 + 1, 0, none⟩ (.int .i64 0) := ⟨_, rfl⟩
      have hfar : ∀ k, w.heap.size + 1 + 1 < k → W3.heap[k]? = W.heap[k]? := fun k hk => by
        rw [hW3, Below.heap_setCell _ _ _ _ (by simp; omega), Below.heap_setCell _ _ _ _ (by simp; omega), Below.heap_setCell _ _ _ _ (by simp; omega)]
      have b1 : Boxed W3 w.heap.size 22 (.slice vp out.length vc) := by rw [hW3]; exact box_far (box_far (box_set h3.1 _) (by omega) 0 _) (by omega) 0 _
      have b2 : Boxed W3 (w.heap.size + 1) 3 (.int .i64 0) := by rw [hW3]; exact box_far (box_set (box_far h3.2.1 (by omega) 0 _) _) (by omega) 0 _
      have b3 : Boxed W3 (w.heap.size + 1 + 1) 24 (.int .i64 0) := by rw [hW3]; exact box_set (box_far (box_far h3.2.2 (by omega) 0 _) (by omega) 0 _) _
      have hB3 : Below w.heap.size w W3 := by rw [hW3]; exact ((hB.setCell (p := ⟨w.heap.size, 0, none⟩) (Nat.le_refl _) _).setCell (p := ⟨w.heap.size + 1, 0, none⟩) (by simp) _).setCell (p := ⟨w.heap.size + 1 + 1, 0, none⟩) (by simp; omega) _
      have hK3 : W3.heap[D]? = some (.deferred (some [])) := (hfar D (by omega)).trans hK
      have ho3 : W3.ownsRow WL.heap.size 34 8 (.slice vp out.length vc) out.length (Rv.rv evV out) := own_blk ho (fun g hg' => hfar g (by have := (ho.lt g hg').1; omega))
      rw [← hW3]
      refine ⟨by simp, .inl ⟨_, _, rfl, run_takeDeferred hK3, ?_⟩⟩
      refine ⟨_, results_ccc (p := ⟨w.heap.size, 0, none⟩) (q := ⟨w.heap.size + 1, 0, none⟩) (r := ⟨w.heap.size + 1 + 1, 0, none⟩) Tryd.results13 rfl rfl rfl (l22 (box_put b1 (by omega) _).cell) (l3 (box_put b2 (by omega) _).cell) (l24 (box_put b3 (by omega) _).cell), ?_, .inr ⟨out, _, hall, rfl, ?_⟩⟩
      · exact hB3.trans (belowK_b (w := w) (Nat.le_refl _) W3 D _ _ (by omega) hK3 rfl rfl)
      · exact (ownsRow_putObj ho3 _ hK3 rfl).mono (by omega)
    case stop =>
      rintro D c pre W hD hpre ⟨rfl, ⟨e, p, hp, h3⟩, hB, hs⟩ hK
      have hall : readT tx.data.toList = .inl (e, p) := by rw [← proc_all (by omega)]; exact proc_stop hpre hp
      have HF := Lib.hid (And.intro h3 (And.intro hB (And.intro hK (And.intro hD (And.intro hall hs)))))
      clear h3 hB hK hD hall hp
      gi_wp2
      obtain ⟨h3, hB, hK, hD, hall, hs⟩ := HF.out
      refine ⟨by simp, .inl ⟨_, _, rfl, run_takeDeferred hK, ?_⟩⟩
      refine ⟨_, results_ccc (p := ⟨w.heap.size, 0, none⟩) (q := ⟨w.heap.size + 1, 0, none⟩) (r := ⟨w.heap.size + 1 + 1, 0, none⟩) Tryd.results13 rfl rfl rfl (l22 (box_put h3.1 (by omega) _).cell) (l3 (box_put h3.2.1 (by omega) _).cell) (l24 (box_put h3.2.2 (by omega) _).cell), ?_, .inl ⟨e, p, hall, rfl⟩⟩
      exact hB.trans (belowK_b (w := w) (Nat.le_refl _) W D _ _ (by omega) hK rfl rfl)
end Go.Proofs.YtkefdbnnfcfmjaaDoor.Walks
