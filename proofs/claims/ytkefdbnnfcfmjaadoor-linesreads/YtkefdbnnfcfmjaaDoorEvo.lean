/-
  The program's event of a line: whatever the line, it is told whether it is an event's, and which. Condition: the words, the table of powers of ten and the two errors are as their initialisers lay them; at most 200000 bytes.
-/
import Derived.Test.YtkefdbnnfcfmjaaDoorFil
import Derived.WalkKit
import Derived.ProofKit
import Derived.Handy
import Derived.LoopTactic
import Derived.Below
import Derived.Laws.BitsAllLaws
import Derived.RegionTactic
import Derived.Deep.RegionHeld3
import Derived.Deep.DrawnRows
import Derived.Deep.AppendLies
import Derived.Laws.OwnMore
import Derived.Deep.Onto
import Derived.Deep.QuietTactic
import Derived.BigQuiet
namespace Go.Proofs.YtkefdbnnfcfmjaaDoor.Walks
open Go.RowKit
open Go.Proofs.YtkefdbnnfcfmjaaDoor.Plain
set_option linter.unusedVariables false
set_option linter.unusedSimpArgs false
attribute [local go_sem ↓] Go.wp_at_zero Go.wp_at_succ

theorem strs_of {bs : List ByteArray} {ps : List (List UInt8)} (h : bs.map (·.data.toList) = ps) {i : Nat} {p : List UInt8} (hp : ps[i]? = some p) : bs[i]? = some ⟨p.toArray⟩ := by
  subst h
  rw [List.getElem?_map] at hp
  cases hb : bs[i]? with
  | none => simp [hb] at hp
  | some x =>
    simp only [hb, Option.map_some, Option.some.injEq] at hp
    rw [← hp]

theorem split_any (t : List UInt8) (ht : t.length ≤ 200000) (w : World) (hG : Gr w) :
    Calls Tryd.prog 41 #[.string ⟨t.toArray⟩, .string ⟨#[32]⟩] w fun r w' => ∃ n, n = (sp t).length ∧ r = .returned (.slice (some ⟨w.heap.size, 0, none⟩) n n) ∧ StrsAt w' (.slice (some ⟨w.heap.size, 0, none⟩) n n) (sp t) ∧ Below w.heap.size w w' ∧ w'.heap.size = w.heap.size + 1 := by
  obtain ⟨_, ⟨m, hm⟩, _, _⟩ := hG
  have hsz : (⟨t.toArray⟩ : ByteArray).size = t.length := by simp [ByteArray.size]
  refine (Tryd.strings_Split ⟨t.toArray⟩ ⟨#[32]⟩ m w (by rw [hsz]; omega) hm (by decide)).mono ?_
  rintro r w' ⟨rfl, rfl⟩
  have hd := Lib.splitB_data ⟨#[32]⟩ 0 (Lib.countB ⟨t.toArray⟩ ⟨#[32]⟩) ⟨t.toArray⟩
  have hd' : (Lib.splitB ⟨#[32]⟩ 0 (Lib.countB ⟨t.toArray⟩ ⟨#[32]⟩) ⟨t.toArray⟩).map (·.data.toList) = sp t := by rw [hd]; exact sp_split t
  have hlen : (sp t).length = Lib.countB ⟨t.toArray⟩ ⟨#[32]⟩ + 1 := by rw [← hd', List.length_map, Lib.splitB_all _ (by decide) 0 _ _ rfl]
  have hle : Lib.countB ⟨t.toArray⟩ ⟨#[32]⟩ ≤ t.length := by have := Lib.countB_le ⟨#[32]⟩ (by decide) _ ⟨t.toArray⟩ (Nat.le_refl _); rw [hsz] at this; exact this
  refine ⟨_, hlen.symm, rfl, ⟨_, 0, _, by rw [hlen], by omega, by omega, by simp, fun i p hp => ?_⟩, (Below.refl _ _).alloc (Nat.le_refl _) _, by simp⟩
  rw [World.cell?, heap_new]
  have := strs_of hd' hp
  simp [this]

theorem sp_parts_len : ∀ (l : List UInt8), ∀ p ∈ sp l, p.length ≤ l.length
  | [], p, hp => by simp [sp] at hp; simp [hp]
  | c :: r, p, hp => by
    have ih := sp_parts_len r
    rw [sp] at hp
    split at hp
    · rcases List.mem_cons.1 hp with rfl | hp
      · simp
      · have := ih p hp; simp; omega
    · split at hp
      · simp at hp; simp [hp]
      · rename_i h t he
        rcases List.mem_cons.1 hp with rfl | hp
        · have := ih h (by rw [he]; simp); simp; omega
        · have := ih p (by rw [he]; simp [hp]); simp; omega

theorem trim_len (l s : List UInt8) : (Lib.trimSuffix l s).length ≤ l.length := by
  unfold Lib.trimSuffix; split
  · rw [List.length_take]; omega
  · exact Nat.le_refl _

theorem offs_ok (k : Int) : ∀ o ∈ offs k, 1 ≤ o ∧ o ≤ 7 ∧ o ≠ 4 := by
  unfold offs; repeat' split
  all_goals simp

abbrev evA (e : Ev) : Value := .agg #[.int .i64 e.kind, .int .i64 e.key, .int .i64 e.slot, .int .i64 e.gen, .bool e.good, .int .i64 e.req, .int .i64 e.be, .int .i64 e.wt]

def EvoPost (line : List UInt8) (w : World) (r : Ending) (w' : World) : Prop :=
  ∃ e, r = .returned (.tuple #[evA e, .bool (evP line).isSome]) ∧ (∀ x, evP line = some x → e = x) ∧ Below w.heap.size w w'

theorem results_ct {fn : Func} {x z : Tmp} {t : TypeId} (h : fn.results = #[.cell x t, .tmp z]) {tmps : Array Value} {P : Program} {w : World} {p : Addr} {v1 v3 : Value} (hx : tmps.getD x undef = .pointer (some p)) (hz : tmps.getD z undef = v3)
    (h1 : (loadVar t p).run P w = .ok v1 w) : (results fn tmps).run P w = .ok (.tuple #[v1, v3]) w := by
  have e1 : ∀ a : Addr, (asAddr (.pointer (some a))).run P w = .ok a w := fun a => rfl
  simp only [Array.getD_eq_getD_getElem?] at hx hz
  simp [results, h, hx, hz, e1, h1, Sem.run_bind]

theorem load_ev {w : World} {g : Nat} {e : Ev} (h : EvAt w g e) : (loadVar 34 ⟨g, 0, none⟩).run Tryd.prog w = .ok (evA e) w :=
  run_loadVar_mid w g 0 34 (evV e) _ (fun j v hv => by rw [Nat.zero_add, h.cell j]; simpa [evV, arr] using hv) Tryd.underlying34 rfl (by kernel_rfl)

theorem there_ev {w : World} {g : Nat} {e : Ev} (h : EvAt w g e) : w.there g 0 8 := fun j hj => by
  rw [Nat.zero_add]
  refine ⟨?_, h.frozen j⟩
  rw [h.cell j]
  have : j = 0 ∨ j = 1 ∨ j = 2 ∨ j = 3 ∨ j = 4 ∨ j = 5 ∨ j = 6 ∨ j = 7 := by omega
  rcases this with rfl | rfl | rfl | rfl | rfl | rfl | rfl | rfl <;> rfl

theorem EvAt.grown {w w' : World} {b b' : Nat} {e : Ev} (h : EvAt w b e) (hg : w.grownBy w' (some b')) (hne : b ≠ b') : EvAt w' b e := by
  unfold EvAt at *
  rw [hg.block b (Array.getElem?_eq_some_iff.1 h).1 (fun e => hne (Option.some.inj e))]
  exact h

theorem EvAt.other {w : World} {b : Nat} {e : Ev} (h : EvAt w b e) (p : Addr) (v : Value) (hne : p.block ≠ b) : EvAt (w.setCell p v) b e := by
  unfold EvAt at *
  rw [Below.heap_setCell _ _ _ _ (fun e => hne e.symm)]
  exact h

theorem heap_set {w : World} {g o : Nat} {cs : Array Value} {T : TypeId} (v : Value) (h : w.heap[g]? = some (.cells cs T)) : (w.setCell ⟨g, o, none⟩ v).heap[g]? = some (.cells (cs.setIfInBounds o v) T) := by
  simp only [World.setCell, Array.getElem?_modify, h, if_true, Option.map_some]
  rfl

theorem ev_sets {w : World} {R : Nat} {z : Ev} (h : EvAt w R z) (e : Ev) :
    EvAt ((((((((w.setCell ⟨R, 0, none⟩ (.int .i64 e.kind)).setCell ⟨R, 1, none⟩ (.int .i64 e.key)).setCell ⟨R, 2, none⟩ (.int .i64 e.slot)).setCell ⟨R, 3, none⟩ (.int .i64 e.gen)).setCell ⟨R, 4, none⟩ (.bool e.good)).setCell ⟨R, 5, none⟩ (.int .i64 e.req)).setCell ⟨R, 6, none⟩ (.int .i64 e.be)).setCell ⟨R, 7, none⟩ (.int .i64 e.wt)) R e := by
  have h0 := heap_set (o := 7) (.int .i64 e.wt) (heap_set (o := 6) (.int .i64 e.be) (heap_set (o := 5) (.int .i64 e.req) (heap_set (o := 4) (.bool e.good) (heap_set (o := 3) (.int .i64 e.gen) (heap_set (o := 2) (.int .i64 e.slot) (heap_set (o := 1) (.int .i64 e.key) (heap_set (o := 0) (.int .i64 e.kind) (show w.heap[R]? = some (.cells (arr z) 34) from h))))))))
  unfold EvAt
  rw [h0]
  simp [arr]

theorem rawP_of {line p0 : List UInt8} {pt : List (List UInt8)} {k : Int} {E0 : Ev} (hp : partsOf line = p0 :: pt) (hk : k = kindB p0) (hE : E0 = { Ev.zero with kind := k }) :
    rawP line = (fillP (offs k) pt E0).map fun e => { e with good := decide (k = 4) && decide ((p0 :: pt).getLastD [] = outB true) } := by
  subst hk hE
  unfold rawP
  rw [hp]
  rfl

theorem ev_other8 {w : World} {b R : Nat} {X : Ev} (h : EvAt w b X) (hne : R ≠ b) (v0 v1 v2 v3 v4 v5 v6 v7 : Value) :
    EvAt ((((((((w.setCell ⟨R, 0, none⟩ v0).setCell ⟨R, 1, none⟩ v1).setCell ⟨R, 2, none⟩ v2).setCell ⟨R, 3, none⟩ v3).setCell ⟨R, 4, none⟩ v4).setCell ⟨R, 5, none⟩ v5).setCell ⟨R, 6, none⟩ v6).setCell ⟨R, 7, none⟩ v7) b X :=
  (((((((h.other _ _ hne).other _ _ hne).other _ _ hne).other _ _ hne).other _ _ hne).other _ _ hne).other _ _ hne).other _ _ hne

theorem below_sets {w0 w : World} {R B : Nat} (h : Below B w0 w) (hR : B ≤ R) (a b c d e f g i : Value) :
    Below B w0 ((((((((w.setCell ⟨R, 0, none⟩ a).setCell ⟨R, 1, none⟩ b).setCell ⟨R, 2, none⟩ c).setCell ⟨R, 3, none⟩ d).setCell ⟨R, 4, none⟩ e).setCell ⟨R, 5, none⟩ f).setCell ⟨R, 6, none⟩ g).setCell ⟨R, 7, none⟩ i) :=
  (((((((h.setCell (p := ⟨R, 0, none⟩) hR _).setCell (p := ⟨R, 1, none⟩) hR _).setCell (p := ⟨R, 2, none⟩) hR _).setCell (p := ⟨R, 3, none⟩) hR _).setCell (p := ⟨R, 4, none⟩) hR _).setCell (p := ⟨R, 5, none⟩) hR _).setCell (p := ⟨R, 6, none⟩) hR _).setCell (p := ⟨R, 7, none⟩) hR _

/-- An event in a box, cell by cell. -/
def Sx (b : Nat) (X : Ev) (w : World) : Prop := EvAt w b X ∧ w.cell? ⟨b, 0, none⟩ = some (.int .i64 X.kind) ∧ w.cell? ⟨b, 1, none⟩ = some (.int .i64 X.key) ∧ w.cell? ⟨b, 2, none⟩ = some (.int .i64 X.slot) ∧ w.cell? ⟨b, 3, none⟩ = some (.int .i64 X.gen) ∧ w.cell? ⟨b, 4, none⟩ = some (.bool X.good) ∧ w.cell? ⟨b, 5, none⟩ = some (.int .i64 X.req) ∧ w.cell? ⟨b, 6, none⟩ = some (.int .i64 X.be) ∧ w.cell? ⟨b, 7, none⟩ = some (.int .i64 X.wt)
theorem sx {b : Nat} {X : Ev} {w : World} (h : EvAt w b X) : Sx b X w := ⟨h, h.all⟩

theorem Ev.put_kind (e : Ev) (o : Nat) (n : Int) : (e.put o n).kind = e.kind := by
  unfold Ev.put; split <;> rfl

theorem fillP_kind : ∀ (os : List Nat) (ps : List (List UInt8)) (e x : Ev), fillP os ps e = some x → x.kind = e.kind
  | [], ps, e, x, h => by cases ps <;> (simp [fillP] at h; rw [← h])
  | o :: os, [], e, x, h => by simp [fillP] at h
  | o :: os, p :: ps, e, x, h => by
    rw [fillP] at h
    split at h
    · rw [fillP_kind os ps _ x h, Ev.put_kind]
    · cases h

theorem EvAt.good {w : World} {b : Nat} {e : Ev} (h : EvAt w b e) (g : Bool) : EvAt (w.setCell ⟨b, 4, none⟩ (.bool g)) b { e with good := g } := by
  have h' : w.heap[b]? = some (.cells (arr e) 34) := h
  unfold EvAt
  simp only [World.setCell, Array.getElem?_modify, h', if_true, Option.map_some]
  rfl

set_option maxHeartbeats 4000000 in
set_option maxRecDepth 100000 in
theorem eventOf_any (line : List UInt8) (hl : line.length ≤ 200000) (w : World) (hG : Gr w) :
    Calls Tryd.prog 24 #[.string ⟨line.toArray⟩] w (EvoPost line w) := by
  have h9 := hG.1.2.2
  have HG := Lib.hid hG
  clear hG
  go_enter Tryd.func24, Tryd.ntmps24
  go_wp2_with fail
  refine (Tryd.strings_TrimSuffix ⟨line.toArray⟩ ⟨#[10]⟩ _ (by simp [ByteArray.size]; omega)).mono ?_
  rintro r w0 ⟨rfl, rfl⟩
  obtain ⟨t, ht⟩ : ∃ t, t = Lib.trimSuffix line [10] := ⟨_, rfl⟩
  have htl : t.length ≤ 200000 := by rw [ht]; exact Nat.le_trans (trim_len _ _) hl
  have HT := Lib.hid ht
  rw [show Lib.trimSuffix (⟨line.toArray⟩ : ByteArray).data.toList (⟨#[10]⟩ : ByteArray).data.toList = t from ht.symm]
  clear ht
  go_wp2_with fail
  refine (split_any t htl _ (HG.out.below ((Below.refl _ _).alloc (Nat.le_refl _) _) h9)).mono ?_
  rintro r w1 ⟨n, hn, rfl, hst, hb1, hs1⟩
  obtain ⟨p0, pt, hps⟩ : ∃ p0 pt, sp t = p0 :: pt := by
    cases h : sp t with
    | nil => exact absurd h (sp_ne t)
    | cons a b => exact ⟨a, b, rfl⟩
  have hplen : ∀ p ∈ p0 :: pt, p.length ≤ 200000 := fun p hp => by rw [← hps] at hp; exact Nat.le_trans (sp_parts_len t p hp) htl
  rw [hps] at hn hst
  have HP : Hid (partsOf line = p0 :: pt) := by unfold Hid partsOf; rw [← HT.out, hps]
  clear hps
  have hst' := hst
  obtain ⟨g, off, cap, hgg, hc1, hc2, hgl, hcell⟩ := hst
  simp only [World.size_alloc, Value.slice.injEq, Option.some.injEq, Addr.mk.injEq, and_true] at hgg hs1
  obtain ⟨⟨rfl, rfl⟩, -, rfl⟩ := hgg
  have c0 : w1.cell? ⟨w.heap.size + 1, 0, none⟩ = some (.string ⟨p0.toArray⟩) := hcell 0 p0 rfl
  have hlast : w1.cell? ⟨w.heap.size + 1, n - 1, none⟩ = some (.string ⟨((p0 :: pt).getLastD []).toArray⟩) := by
    have := hcell (n - 1) ((p0 :: pt).getLastD []) (by rw [hn]; simp [List.getLastD_eq_getLast?, List.getLast?_eq_getElem?])
    simpa using this
  have hRes : EvAt w1 w.heap.size Ev.zero := EvAt.below (heap_new w _) hb1 (by simp)
  have hB1 : Below w.heap.size w w1 := ((Below.refl _ _).alloc (Nat.le_refl _) _).trans (hb1.mono (by simp))
  have hn1 : 1 ≤ n := by rw [hn]; simp
  have hG1 : Gr w1 := HG.out.below hB1 h9
  have HH : Hid (_ ∧ _ ∧ _ ∧ _ ∧ _ ∧ _) := ⟨hcell, hplen, hst', hn, hG1, hB1⟩
  clear hcell hplen hst' hn hG1 hb1
  go_wp2_with fail
  refine (kind_any p0 w1 HH.out.2.2.2.2.1.1).mono ?_
  rintro r w2 ⟨rfl, rfl⟩
  obtain ⟨k, hk⟩ : ∃ k, k = kindB p0 := ⟨_, rfl⟩
  rw [← hk]
  have HK := Lib.hid hk
  clear hk
  obtain ⟨E0, hE0⟩ : ∃ E0, E0 = ({ Ev.zero with kind := k } : Ev) := ⟨_, rfl⟩
  have HE0 := Lib.hid hE0
  go_wp2_with fail
  obtain ⟨W, hW⟩ : ∃ W, W = w2.alloc (.cells #[.int .i64 k, .int .i64 0, .int .i64 0, .int .i64 0, .bool false, .int .i64 0, .int .i64 0, .int .i64 0] 34) := ⟨_, rfl⟩
  rw [← hW]
  have hWs : W.heap.size = w.heap.size + 1 + 1 + 1 := by rw [hW]; simp [hs1]
  have hEW : EvAt W (w.heap.size + 1 + 1) E0 := by rw [hW, ← hs1, hE0]; exact heap_new w2 _
  have hBW : Below w2.heap.size w2 W := by rw [hW]; exact (Below.refl _ _).alloc (Nat.le_refl _) _
  have hcW : W.cell? ⟨w.heap.size + 1 + 1, 0, none⟩ = some (.int .i64 k) := by rw [hEW.cell 0, hE0]; rfl
  have HW : Hid (_ ∧ _ ∧ _) := ⟨hW, hEW, hBW⟩
  clear hW hEW hBW hE0
  have hn' : (1 : Int) ≤ (n : Int) := by omega
  have HST : Hid (∀ x, Below w2.heap.size w2 x → (n = 1 → StrsAt x (.slice (some ⟨w.heap.size + 1, 0, none⟩) 0 0) pt) ∧ (¬ n = 1 → StrsAt x (.slice (some ⟨w.heap.size + 1, 1, none⟩) (n - 1) (n - 1)) pt)) := by
    intro x hx
    have hlp : pt.length = n - 1 := by rw [HH.out.2.2.2.1]; simp
    have hsz := hx.size
    constructor
    · intro h1
      subst h1
      obtain rfl : pt = [] := List.length_eq_zero_iff.1 hlp
      exact ⟨_, 0, 0, rfl, by simp, by omega, by omega, fun i p hp => by simp at hp⟩
    · intro h1
      refine ⟨_, 1, n - 1, by rw [hlp], by omega, by omega, by omega, fun i p hp => ?_⟩
      rw [hx.cell (p := ⟨w.heap.size + 1, 1 + i, none⟩) (by simp; omega)]
      have := HH.out.1 (i + 1) p (by simpa using hp)
      rw [show 1 + i = 0 + (i + 1) by omega]; exact this
  have hG1 := HH.out.2.2.2.2.1
  by_cases hn1' : n = 1
  · have HS2 : Hid (∀ x, Below w2.heap.size w2 x → StrsAt x (.slice (some ⟨w.heap.size + 1, 0, none⟩) 0 0) pt) := fun x hx => (HST.out x hx).1 hn1'
    subst hn1'
    go_region_held3 (fun w' => True) (go_keep)
      (first
    | (go_at_call 31; refine (nb_any (w.heap.size + 1 + 1) k _ (by exact hcW)).mono ?_; rintro r w3 ⟨v, rfl, hb3', hpt⟩; have hb3 := below_of_drew hb3')
    | (go_at_call 44; refine (fill_any (offs k) pt E0 (w.heap.size + 1 + 1) _ v _ w3 (hG1.below (HW.out.2.2.trans (Below.mono hb3 (by simp [hWs, hs1]))) (by omega)) hpt (by simp [hWs]) (by omega) (HS2.out w3 (HW.out.2.2.trans (Below.mono hb3 (by simp [hWs, hs1])))) (by intro x hx; cases hx; show w.heap.size + 1 ≠ w.heap.size + 1 + 1; omega) (HW.out.2.1.below hb3 (by simp [hWs])) (offs_ok k) (fun p hp => HH.out.2.1 p (List.mem_cons_of_mem _ hp))).mono ?_; rintro r w4 ⟨rfl, hE4, hg4⟩))
    have hR4 : EvAt w4 w.heap.size Ev.zero := EvAt.grown (EvAt.below (EvAt.below hRes HW.out.2.2 (by omega)) hb3 (by omega)) hg4 (by omega)
    have hB4 : Below w.heap.size w w4 := (hB1.trans ((HW.out.2.2.trans (hb3.mono (by omega))).mono (by omega))).grown hg4 (by have := hb3.size; omega) (by intro j hj; cases hj; omega)
    obtain ⟨z0, z1, z2, z3, z4, z5, z6, z7⟩ := hR4.all
    cases hF : fillP (offs k) pt E0 with
    | none =>
      have y0 := hR4.frozen 0; have y1 := hR4.frozen 1; have y2 := hR4.frozen 2; have y3 := hR4.frozen 3; have y4 := hR4.frozen 4; have y5 := hR4.frozen 5; have y6 := hR4.frozen 6; have y7 := hR4.frozen 7
      go_wp2
      refine bodyPost_ret (v := .tuple #[evA Ev.zero, .bool false]) (results_ct Tryd.results24 rfl rfl (load_ev (ev_sets hR4 Ev.zero))) rfl ?_
      have hnone : evP line = none := by unfold evP; rw [rawP_of HP.out HK.out HE0.out, hF]; rfl
      refine ⟨Ev.zero, by rw [hnone]; rfl, fun y hy => (by rw [hnone] at hy; cases hy), ?_⟩
      exact below_sets hB4 (Nat.le_refl _) _ _ _ _ _ _ _ _
    | some x =>
      have hk4 : x.kind = k := by have := fillP_kind _ _ _ _ hF; rw [this, HE0.out]
      have hEx : EvAt w4 (w.heap.size + 1 + 1) x := hE4 x hF
      obtain ⟨e0, e1, e2, e3, e4, e5, e6, e7⟩ := hEx.all
      rw [hk4] at e0
      have f4 := hEx.frozen 4
      have hl4 : w4.cell? ⟨w.heap.size + 1, 0, none⟩ = some (.string ⟨((p0 :: pt).getLastD []).toArray⟩) := by
        rw [hg4.cell_far ⟨w.heap.size + 1, 0, none⟩ (by have := hb3.size; simp; omega) (by simp), hb3.cell (p := ⟨w.heap.size + 1, 0, none⟩) (by simp; omega), HW.out.2.2.cell (p := ⟨w.heap.size + 1, 0, none⟩) (by simp; omega)]; exact hlast
      generalize hlp : (p0 :: pt).getLastD [] = pl at *
      have hraw : rawP line = some { x with good := decide (k = 4) && decide (pl = outB true) } := by
        rw [rawP_of HP.out HK.out HE0.out, hF, hlp]; rfl
      have HX := Lib.hid (And.intro hF (And.intro hk4 (And.intro hlp hraw)))
      clear hF hk4 hlp hraw
      by_cases h4 : k = 4
      · by_cases hpl : pl = [103, 111, 111, 100]
        · subst h4
          subst hpl
          go_wp2
          obtain ⟨X, hX⟩ : ∃ X, X = ({ x with good := true } : Ev) := ⟨_, rfl⟩
          have HEV : Hid (evP line = if fault X = 0 ∧ lineB X = line then some X else none) := by unfold Hid evP; rw [HX.out.2.2.2, hX]; simp [outB]
          obtain ⟨w5, hw5⟩ : ∃ w5, w5 = w4.setCell ⟨w.heap.size + 1 + 1, 4, none⟩ (.bool true) := ⟨_, rfl⟩
          have hE5 : EvAt w5 (w.heap.size + 1 + 1) X := by rw [hw5, hX]; exact hEx.good true
          have hR5 : EvAt w5 w.heap.size Ev.zero := by rw [hw5]; exact hR4.other _ _ (by simp; omega)
          have hB5 : Below w.heap.size w w5 := by rw [hw5]; exact hB4.setCell (p := ⟨w.heap.size + 1 + 1, 4, none⟩) (by simp; omega) _
          rw [← hw5]
          have HX5 := Lib.hid (And.intro hX hw5)
          clear hX hw5 e0 e1 e2 e3 e4 e5 e6 e7 f4 hl4 z0 z1 z2 z3 z4 z5 z6 z7
          obtain ⟨e0, e1, e2, e3, e4, e5, e6, e7⟩ := hE5.all
          have hi34 : (Tryd.prog.info? 34).map (·.size) = some 8 := by kernel_rfl
          by_cases hfa : fault X = 0
          · have HFA := Lib.hid hfa
            clear hfa
            obtain ⟨ok, hok⟩ : ∃ ok, ok = (lineB X == line) := ⟨_, rfl⟩
            have HOK := Lib.hid hok
            have hok' := hok.symm
            clear hok
            refine wp_region_held_drew (S := (fun w' => EvAt w' (w.heap.size + 1 + 1) X ∧ w'.cell? ⟨w.heap.size + 1 + 1, 0, none⟩ = some (.int .i64 X.kind) ∧ w'.cell? ⟨w.heap.size + 1 + 1, 1, none⟩ = some (.int .i64 X.key) ∧ w'.cell? ⟨w.heap.size + 1 + 1, 2, none⟩ = some (.int .i64 X.slot) ∧ w'.cell? ⟨w.heap.size + 1 + 1, 3, none⟩ = some (.int .i64 X.gen) ∧ w'.cell? ⟨w.heap.size + 1 + 1, 4, none⟩ = some (.bool X.good) ∧ w'.cell? ⟨w.heap.size + 1 + 1, 5, none⟩ = some (.int .i64 X.req) ∧ w'.cell? ⟨w.heap.size + 1 + 1, 6, none⟩ = some (.int .i64 X.be) ∧ w'.cell? ⟨w.heap.size + 1 + 1, 7, none⟩ = some (.int .i64 X.wt))) (by kernel_rfl) (sx hE5) (fun hHeld => ?_)
            refine wpAnyH_take (i := 0) (oi := _) (v := evA X) rfl (by kernel_rfl) (by kernel_rfl) (by kernel_rfl) (fun _ _ _ h => h) (Or.inl ⟨by rfl, fun W hSw => by obtain ⟨s8, s0, s1, s2, s3, s4, s5, s6, s7⟩ := hSw; go_simp⟩) hHeld ?_
            simp only [Act.put, List.setIfInBounds_toArray, List.set_cons_zero, List.set_cons_succ]
            refine wpAnyH_take (i := 1) (oi := _) (v := evA X) rfl (by kernel_rfl) (by kernel_rfl) (by kernel_rfl) (fun _ _ _ h => h) (Or.inl ⟨by rfl, fun W hSw => by obtain ⟨s8, s0, s1, s2, s3, s4, s5, s6, s7⟩ := hSw; go_simp⟩) hHeld ?_
            simp only [Act.put, List.setIfInBounds_toArray, List.set_cons_zero, List.set_cons_succ]
            refine wpAnyH_ready (rs := [2]) (by kernel_rfl) (by simp) ?_
            refine AllReadyH.cons (o := _) rfl (fun K hK => ?_) AllReadyH.nil
            rw [if_pos (by rfl)]
            go_wp2_with fail
            refine (check_any X _).mono ?_
            rintro r w6 ⟨rfl, hb6'⟩
            have hb6 := below_of_drew hb6'
            rw [HFA.out]
            try go_wp2
            refine hK.out _ _ (sx (hE5.below hb6 hE5.lt)) (fun hHeld => ?_)
            clear hK K
            try simp only [Act.put, List.setIfInBounds_toArray, List.set_cons_zero, List.set_cons_succ]
            refine wpAnyH_take (i := 3) (oi := _) (v := .bool true) rfl (by kernel_rfl) (by kernel_rfl) (by kernel_rfl) (fun _ _ _ h => h) (Or.inl ⟨by rfl, fun W hSw => by obtain ⟨s8, s0, s1, s2, s3, s4, s5, s6, s7⟩ := hSw; go_simp⟩) hHeld ?_
            simp only [Act.put, List.setIfInBounds_toArray, List.set_cons_zero, List.set_cons_succ]
            refine wpAnyH_take (i := 4) (oi := _) (v := .bool true) rfl (by kernel_rfl) (by kernel_rfl) (by kernel_rfl) (fun _ _ _ h => h) (Or.inl ⟨by rfl, fun W hSw => by obtain ⟨s8, s0, s1, s2, s3, s4, s5, s6, s7⟩ := hSw; go_simp⟩) hHeld ?_
            simp only [Act.put, List.setIfInBounds_toArray, List.set_cons_zero, List.set_cons_succ]
            refine wpAnyH_take (i := 5) (oi := _) (v := evA X) rfl (by kernel_rfl) (by kernel_rfl) (by kernel_rfl) (fun _ _ _ h => h) (Or.inl ⟨by rfl, fun W hSw => by obtain ⟨s8, s0, s1, s2, s3, s4, s5, s6, s7⟩ := hSw; go_simp⟩) hHeld ?_
            simp only [Act.put, List.setIfInBounds_toArray, List.set_cons_zero, List.set_cons_succ]
            refine wpAnyH_take (i := 7) (oi := _) (v := .string ⟨line.toArray⟩) rfl (by kernel_rfl) (by kernel_rfl) (by kernel_rfl) (fun _ _ _ h => h) (Or.inl ⟨by rfl, fun W hSw => by obtain ⟨s8, s0, s1, s2, s3, s4, s5, s6, s7⟩ := hSw; go_simp⟩) hHeld ?_
            simp only [Act.put, List.setIfInBounds_toArray, List.set_cons_zero, List.set_cons_succ]
            refine wpAnyH_ready (rs := [6]) (by kernel_rfl) (by simp) ?_
            refine AllReadyH.cons (o := _) rfl (fun K hK => ?_) AllReadyH.nil
            rw [if_pos (by rfl)]
            go_wp2_with fail
            refine (line_any X _ (HG.out.1.below (hB5.trans (hb6.mono hB5.size)) h9) HFA.out).mono ?_
            rintro r w7 ⟨rfl, hb7⟩
            try go_wp2
            refine hK.out _ _ (sx (EvAt.below (hE5.below hb6 hE5.lt) hb7 (by have := hE5.lt; have := hb6.size; omega))) (fun hHeld => ?_)
            clear hK K
            try simp only [Act.put, List.setIfInBounds_toArray, List.set_cons_zero, List.set_cons_succ]
            refine wpAnyH_take (i := 8) (oi := _) (v := .bool ok) rfl (by kernel_rfl) (by kernel_rfl) (by kernel_rfl) (fun _ _ _ h => h) (Or.inl ⟨by rfl, fun W hSw => by obtain ⟨s8, s0, s1, s2, s3, s4, s5, s6, s7⟩ := hSw; go_simp⟩) hHeld ?_
            simp only [Act.put, List.setIfInBounds_toArray, List.set_cons_zero, List.set_cons_succ]
            refine wpAnyH_take (i := 9) (oi := _) (v := .bool ok) rfl (by kernel_rfl) (by kernel_rfl) (by kernel_rfl) (fun _ _ _ h => h) (Or.inl ⟨by rfl, fun W hSw => by obtain ⟨s8, s0, s1, s2, s3, s4, s5, s6, s7⟩ := hSw; go_simp⟩) hHeld ?_
            simp only [Act.put, List.setIfInBounds_toArray, List.set_cons_zero, List.set_cons_succ]
            have hRw := (EvAt.below (EvAt.below hR5 hb6 hR5.lt) hb7 (by have := hR5.lt; have := hb6.size; omega))
            obtain ⟨z0, z1, z2, z3, z4, z5, z6, z7⟩ := hRw.all
            have y0 := hRw.frozen 0; have y1 := hRw.frozen 1; have y2 := hRw.frozen 2; have y3 := hRw.frozen 3; have y4 := hRw.frozen 4; have y5 := hRw.frozen 5; have y6 := hRw.frozen 6; have y7 := hRw.frozen 7
            obtain ⟨w8, hw8⟩ : ∃ w8, w8 = (World.setCell (World.setCell (World.setCell (World.setCell (World.setCell (World.setCell (World.setCell (World.setCell w7 ⟨w.heap.size, 0, none⟩ (.int .i64 X.kind)) ⟨w.heap.size, 1, none⟩ (.int .i64 X.key)) ⟨w.heap.size, 2, none⟩ (.int .i64 X.slot)) ⟨w.heap.size, 3, none⟩ (.int .i64 X.gen)) ⟨w.heap.size, 4, none⟩ (.bool X.good)) ⟨w.heap.size, 5, none⟩ (.int .i64 X.req)) ⟨w.heap.size, 6, none⟩ (.int .i64 X.be)) ⟨w.heap.size, 7, none⟩ (.int .i64 X.wt)) := ⟨_, rfl⟩
            have hE8 : EvAt w8 (w.heap.size + 1 + 1) X := by rw [hw8]; exact ev_other8 (EvAt.below (hE5.below hb6 hE5.lt) hb7 (by have := hE5.lt; have := hb6.size; omega)) (by simp; omega) _ _ _ _ _ _ _ _
            have hR8 : EvAt w8 w.heap.size X := by rw [hw8]; exact ev_sets hRw X
            have hB8 : Below w.heap.size w w8 := by rw [hw8]; exact below_sets ((hB5.trans (hb6.mono hB5.size)).trans (hb7.mono (hB5.trans (hb6.mono hB5.size)).size)) (Nat.le_refl _) _ _ _ _ _ _ _ _
            refine wpAnyH_ready (rs := [10]) (by kernel_rfl) (by simp) ?_
            refine AllReadyH.cons (o := _) rfl (fun K hK => ?_) AllReadyH.nil
            rw [if_pos (by rfl)]
            have HW8 := Lib.hid hw8
            clear hw8
            go_wp2
            rw [← HW8.out]
            refine hK.out _ _ (sx hE8) (fun hHeld => ?_)
            clear hK K
            try simp only [Act.put, List.setIfInBounds_toArray, List.set_cons_zero, List.set_cons_succ]
            refine wpAnyH_ready (rs := [11]) (by kernel_rfl) (by simp) ?_
            refine AllReadyH.cons (o := _) rfl (fun K hK => ?_) AllReadyH.nil
            go_simp
            refine hK.out _ _ hHeld (fun hHeld => ?_)
            clear hK K
            try simp only [Act.put, List.setIfInBounds_toArray, List.set_cons_zero, List.set_cons_succ]
            refine wpAnyH_done (by kernel_rfl) ?_ _
            go_wp2
            refine bodyPost_ret (v := .tuple #[evA X, .bool ok]) (results_ct Tryd.results24 rfl rfl (load_ev hR8)) rfl ?_
            refine ⟨X, ?_, ?_, hB8⟩
            · rw [HEV.out]; by_cases hq : lineB X = line
              · rw [if_pos ⟨HFA.out, hq⟩, HOK.out, hq]; simp
              · rw [if_neg (fun h => hq h.2), HOK.out, beq_eq_false_iff_ne.2 hq]; rfl
            · intro y hy; rw [HEV.out] at hy; split at hy
              · exact Option.some.inj hy
              · cases hy
          · have hfb : (fault X == 0) = false := beq_eq_false_iff_ne.2 hfa
            refine wp_region_held_drew (S := (fun w' => EvAt w' (w.heap.size + 1 + 1) X ∧ w'.cell? ⟨w.heap.size + 1 + 1, 0, none⟩ = some (.int .i64 X.kind) ∧ w'.cell? ⟨w.heap.size + 1 + 1, 1, none⟩ = some (.int .i64 X.key) ∧ w'.cell? ⟨w.heap.size + 1 + 1, 2, none⟩ = some (.int .i64 X.slot) ∧ w'.cell? ⟨w.heap.size + 1 + 1, 3, none⟩ = some (.int .i64 X.gen) ∧ w'.cell? ⟨w.heap.size + 1 + 1, 4, none⟩ = some (.bool X.good) ∧ w'.cell? ⟨w.heap.size + 1 + 1, 5, none⟩ = some (.int .i64 X.req) ∧ w'.cell? ⟨w.heap.size + 1 + 1, 6, none⟩ = some (.int .i64 X.be) ∧ w'.cell? ⟨w.heap.size + 1 + 1, 7, none⟩ = some (.int .i64 X.wt))) (by kernel_rfl) (sx hE5) (fun hHeld => ?_)
            refine wpAnyH_take (i := 0) (oi := _) (v := evA X) rfl (by kernel_rfl) (by kernel_rfl) (by kernel_rfl) (fun _ _ _ h => h) (Or.inl ⟨by rfl, fun W hSw => by obtain ⟨s8, s0, s1, s2, s3, s4, s5, s6, s7⟩ := hSw; go_simp⟩) hHeld ?_
            simp only [Act.put, List.setIfInBounds_toArray, List.set_cons_zero, List.set_cons_succ]
            refine wpAnyH_take (i := 1) (oi := _) (v := evA X) rfl (by kernel_rfl) (by kernel_rfl) (by kernel_rfl) (fun _ _ _ h => h) (Or.inl ⟨by rfl, fun W hSw => by obtain ⟨s8, s0, s1, s2, s3, s4, s5, s6, s7⟩ := hSw; go_simp⟩) hHeld ?_
            simp only [Act.put, List.setIfInBounds_toArray, List.set_cons_zero, List.set_cons_succ]
            refine wpAnyH_ready (rs := [2]) (by kernel_rfl) (by simp) ?_
            refine AllReadyH.cons (o := _) rfl (fun K hK => ?_) AllReadyH.nil
            rw [if_pos (by rfl)]
            go_wp2_with fail
            refine (check_any X _).mono ?_
            rintro r w6 ⟨rfl, hb6'⟩
            have hb6 := below_of_drew hb6'
            try go_wp2
            refine hK.out _ _ (sx (hE5.below hb6 hE5.lt)) (fun hHeld => ?_)
            clear hK K
            try simp only [Act.put, List.setIfInBounds_toArray, List.set_cons_zero, List.set_cons_succ]
            refine wpAnyH_take (i := 3) (oi := _) (v := .bool false) rfl (by kernel_rfl) (by kernel_rfl) (by kernel_rfl) (fun _ _ _ h => h) (Or.inl ⟨by rfl, fun W hSw => by obtain ⟨s8, s0, s1, s2, s3, s4, s5, s6, s7⟩ := hSw; go_simp⟩) hHeld ?_
            simp only [Act.put, List.setIfInBounds_toArray, List.set_cons_zero, List.set_cons_succ]
            refine wpAnyH_take (i := 4) (oi := _) (v := .bool false) rfl (by kernel_rfl) (by kernel_rfl) (by kernel_rfl) (fun _ _ _ h => h) (Or.inl ⟨by rfl, fun W hSw => by obtain ⟨s8, s0, s1, s2, s3, s4, s5, s6, s7⟩ := hSw; go_simp⟩) hHeld ?_
            simp only [Act.put, List.setIfInBounds_toArray, List.set_cons_zero, List.set_cons_succ]
            refine wpAnyH_take (i := 5) (oi := _) (v := undef) rfl (by kernel_rfl) (by kernel_rfl) (by kernel_rfl) (fun _ _ _ h => h) (Or.inr ⟨by rfl, rfl⟩) hHeld ?_
            simp only [Act.put, List.setIfInBounds_toArray, List.set_cons_zero, List.set_cons_succ]
            refine wpAnyH_take (i := 6) (oi := _) (v := undef) rfl (by kernel_rfl) (by kernel_rfl) (by kernel_rfl) (fun _ _ _ h => h) (Or.inr ⟨by rfl, rfl⟩) hHeld ?_
            simp only [Act.put, List.setIfInBounds_toArray, List.set_cons_zero, List.set_cons_succ]
            refine wpAnyH_take (i := 7) (oi := _) (v := undef) rfl (by kernel_rfl) (by kernel_rfl) (by kernel_rfl) (fun _ _ _ h => h) (Or.inr ⟨by rfl, rfl⟩) hHeld ?_
            simp only [Act.put, List.setIfInBounds_toArray, List.set_cons_zero, List.set_cons_succ]
            refine wpAnyH_take (i := 8) (oi := _) (v := undef) rfl (by kernel_rfl) (by kernel_rfl) (by kernel_rfl) (fun _ _ _ h => h) (Or.inr ⟨by rfl, rfl⟩) hHeld ?_
            simp only [Act.put, List.setIfInBounds_toArray, List.set_cons_zero, List.set_cons_succ]
            refine wpAnyH_take (i := 9) (oi := _) (v := .bool false) rfl (by kernel_rfl) (by kernel_rfl) (by kernel_rfl) (fun _ _ _ h => h) (Or.inl ⟨by rfl, fun W hSw => by obtain ⟨s8, s0, s1, s2, s3, s4, s5, s6, s7⟩ := hSw; go_simp⟩) hHeld ?_
            simp only [Act.put, List.setIfInBounds_toArray, List.set_cons_zero, List.set_cons_succ]
            have hRw := (hR5.below hb6 hR5.lt)
            obtain ⟨z0, z1, z2, z3, z4, z5, z6, z7⟩ := hRw.all
            have y0 := hRw.frozen 0; have y1 := hRw.frozen 1; have y2 := hRw.frozen 2; have y3 := hRw.frozen 3; have y4 := hRw.frozen 4; have y5 := hRw.frozen 5; have y6 := hRw.frozen 6; have y7 := hRw.frozen 7
            obtain ⟨w8, hw8⟩ : ∃ w8, w8 = (World.setCell (World.setCell (World.setCell (World.setCell (World.setCell (World.setCell (World.setCell (World.setCell w6 ⟨w.heap.size, 0, none⟩ (.int .i64 X.kind)) ⟨w.heap.size, 1, none⟩ (.int .i64 X.key)) ⟨w.heap.size, 2, none⟩ (.int .i64 X.slot)) ⟨w.heap.size, 3, none⟩ (.int .i64 X.gen)) ⟨w.heap.size, 4, none⟩ (.bool X.good)) ⟨w.heap.size, 5, none⟩ (.int .i64 X.req)) ⟨w.heap.size, 6, none⟩ (.int .i64 X.be)) ⟨w.heap.size, 7, none⟩ (.int .i64 X.wt)) := ⟨_, rfl⟩
            have hE8 : EvAt w8 (w.heap.size + 1 + 1) X := by rw [hw8]; exact ev_other8 (hE5.below hb6 hE5.lt) (by simp; omega) _ _ _ _ _ _ _ _
            have hR8 : EvAt w8 w.heap.size X := by rw [hw8]; exact ev_sets hRw X
            have hB8 : Below w.heap.size w w8 := by rw [hw8]; exact below_sets (hB5.trans (hb6.mono hB5.size)) (Nat.le_refl _) _ _ _ _ _ _ _ _
            refine wpAnyH_ready (rs := [10]) (by kernel_rfl) (by simp) ?_
            refine AllReadyH.cons (o := _) rfl (fun K hK => ?_) AllReadyH.nil
            rw [if_pos (by rfl)]
            have HW8 := Lib.hid hw8
            clear hw8
            go_wp2
            rw [← HW8.out]
            refine hK.out _ _ (sx hE8) (fun hHeld => ?_)
            clear hK K
            try simp only [Act.put, List.setIfInBounds_toArray, List.set_cons_zero, List.set_cons_succ]
            refine wpAnyH_ready (rs := [11]) (by kernel_rfl) (by simp) ?_
            refine AllReadyH.cons (o := _) rfl (fun K hK => ?_) AllReadyH.nil
            go_simp
            refine hK.out _ _ hHeld (fun hHeld => ?_)
            clear hK K
            try simp only [Act.put, List.setIfInBounds_toArray, List.set_cons_zero, List.set_cons_succ]
            refine wpAnyH_done (by kernel_rfl) ?_ _
            go_wp2
            refine bodyPost_ret (v := .tuple #[evA X, .bool false]) (results_ct Tryd.results24 rfl rfl (load_ev hR8)) rfl ?_
            refine ⟨X, ?_, ?_, hB8⟩
            · rw [HEV.out, if_neg (fun h => hfa h.1)]; rfl
            · intro y hy; rw [HEV.out, if_neg (fun h => hfa h.1)] at hy; cases hy
        · subst h4
          have hpl' : (pl == [103, 111, 111, 100]) = false := beq_eq_false_iff_ne.2 hpl
          go_wp2
          obtain ⟨X, hX⟩ : ∃ X, X = ({ x with good := false } : Ev) := ⟨_, rfl⟩
          have HEV : Hid (evP line = if fault X = 0 ∧ lineB X = line then some X else none) := by unfold Hid evP; rw [HX.out.2.2.2, hX]; simp [hpl, outB]
          obtain ⟨w5, hw5⟩ : ∃ w5, w5 = w4.setCell ⟨w.heap.size + 1 + 1, 4, none⟩ (.bool false) := ⟨_, rfl⟩
          have hE5 : EvAt w5 (w.heap.size + 1 + 1) X := by rw [hw5, hX]; exact hEx.good false
          have hR5 : EvAt w5 w.heap.size Ev.zero := by rw [hw5]; exact hR4.other _ _ (by simp; omega)
          have hB5 : Below w.heap.size w w5 := by rw [hw5]; exact hB4.setCell (p := ⟨w.heap.size + 1 + 1, 4, none⟩) (by simp; omega) _
          rw [← hw5]
          have HX5 := Lib.hid (And.intro hX hw5)
          clear hX hw5 e0 e1 e2 e3 e4 e5 e6 e7 f4 hl4 z0 z1 z2 z3 z4 z5 z6 z7
          obtain ⟨e0, e1, e2, e3, e4, e5, e6, e7⟩ := hE5.all
          have hi34 : (Tryd.prog.info? 34).map (·.size) = some 8 := by kernel_rfl
          by_cases hfa : fault X = 0
          · have HFA := Lib.hid hfa
            clear hfa
            obtain ⟨ok, hok⟩ : ∃ ok, ok = (lineB X == line) := ⟨_, rfl⟩
            have HOK := Lib.hid hok
            have hok' := hok.symm
            clear hok
            refine wp_region_held_drew (S := (fun w' => EvAt w' (w.heap.size + 1 + 1) X ∧ w'.cell? ⟨w.heap.size + 1 + 1, 0, none⟩ = some (.int .i64 X.kind) ∧ w'.cell? ⟨w.heap.size + 1 + 1, 1, none⟩ = some (.int .i64 X.key) ∧ w'.cell? ⟨w.heap.size + 1 + 1, 2, none⟩ = some (.int .i64 X.slot) ∧ w'.cell? ⟨w.heap.size + 1 + 1, 3, none⟩ = some (.int .i64 X.gen) ∧ w'.cell? ⟨w.heap.size + 1 + 1, 4, none⟩ = some (.bool X.good) ∧ w'.cell? ⟨w.heap.size + 1 + 1, 5, none⟩ = some (.int .i64 X.req) ∧ w'.cell? ⟨w.heap.size + 1 + 1, 6, none⟩ = some (.int .i64 X.be) ∧ w'.cell? ⟨w.heap.size + 1 + 1, 7, none⟩ = some (.int .i64 X.wt))) (by kernel_rfl) (sx hE5) (fun hHeld => ?_)
            refine wpAnyH_take (i := 0) (oi := _) (v := evA X) rfl (by kernel_rfl) (by kernel_rfl) (by kernel_rfl) (fun _ _ _ h => h) (Or.inl ⟨by rfl, fun W hSw => by obtain ⟨s8, s0, s1, s2, s3, s4, s5, s6, s7⟩ := hSw; go_simp⟩) hHeld ?_
            simp only [Act.put, List.setIfInBounds_toArray, List.set_cons_zero, List.set_cons_succ]
            refine wpAnyH_take (i := 1) (oi := _) (v := evA X) rfl (by kernel_rfl) (by kernel_rfl) (by kernel_rfl) (fun _ _ _ h => h) (Or.inl ⟨by rfl, fun W hSw => by obtain ⟨s8, s0, s1, s2, s3, s4, s5, s6, s7⟩ := hSw; go_simp⟩) hHeld ?_
            simp only [Act.put, List.setIfInBounds_toArray, List.set_cons_zero, List.set_cons_succ]
            refine wpAnyH_ready (rs := [2]) (by kernel_rfl) (by simp) ?_
            refine AllReadyH.cons (o := _) rfl (fun K hK => ?_) AllReadyH.nil
            rw [if_pos (by rfl)]
            go_wp2_with fail
            refine (check_any X _).mono ?_
            rintro r w6 ⟨rfl, hb6'⟩
            have hb6 := below_of_drew hb6'
            rw [HFA.out]
            try go_wp2
            refine hK.out _ _ (sx (hE5.below hb6 hE5.lt)) (fun hHeld => ?_)
            clear hK K
            try simp only [Act.put, List.setIfInBounds_toArray, List.set_cons_zero, List.set_cons_succ]
            refine wpAnyH_take (i := 3) (oi := _) (v := .bool true) rfl (by kernel_rfl) (by kernel_rfl) (by kernel_rfl) (fun _ _ _ h => h) (Or.inl ⟨by rfl, fun W hSw => by obtain ⟨s8, s0, s1, s2, s3, s4, s5, s6, s7⟩ := hSw; go_simp⟩) hHeld ?_
            simp only [Act.put, List.setIfInBounds_toArray, List.set_cons_zero, List.set_cons_succ]
            refine wpAnyH_take (i := 4) (oi := _) (v := .bool true) rfl (by kernel_rfl) (by kernel_rfl) (by kernel_rfl) (fun _ _ _ h => h) (Or.inl ⟨by rfl, fun W hSw => by obtain ⟨s8, s0, s1, s2, s3, s4, s5, s6, s7⟩ := hSw; go_simp⟩) hHeld ?_
            simp only [Act.put, List.setIfInBounds_toArray, List.set_cons_zero, List.set_cons_succ]
            refine wpAnyH_take (i := 5) (oi := _) (v := evA X) rfl (by kernel_rfl) (by kernel_rfl) (by kernel_rfl) (fun _ _ _ h => h) (Or.inl ⟨by rfl, fun W hSw => by obtain ⟨s8, s0, s1, s2, s3, s4, s5, s6, s7⟩ := hSw; go_simp⟩) hHeld ?_
            simp only [Act.put, List.setIfInBounds_toArray, List.set_cons_zero, List.set_cons_succ]
            refine wpAnyH_take (i := 7) (oi := _) (v := .string ⟨line.toArray⟩) rfl (by kernel_rfl) (by kernel_rfl) (by kernel_rfl) (fun _ _ _ h => h) (Or.inl ⟨by rfl, fun W hSw => by obtain ⟨s8, s0, s1, s2, s3, s4, s5, s6, s7⟩ := hSw; go_simp⟩) hHeld ?_
            simp only [Act.put, List.setIfInBounds_toArray, List.set_cons_zero, List.set_cons_succ]
            refine wpAnyH_ready (rs := [6]) (by kernel_rfl) (by simp) ?_
            refine AllReadyH.cons (o := _) rfl (fun K hK => ?_) AllReadyH.nil
            rw [if_pos (by rfl)]
            go_wp2_with fail
            refine (line_any X _ (HG.out.1.below (hB5.trans (hb6.mono hB5.size)) h9) HFA.out).mono ?_
            rintro r w7 ⟨rfl, hb7⟩
            try go_wp2
            refine hK.out _ _ (sx (EvAt.below (hE5.below hb6 hE5.lt) hb7 (by have := hE5.lt; have := hb6.size; omega))) (fun hHeld => ?_)
            clear hK K
            try simp only [Act.put, List.setIfInBounds_toArray, List.set_cons_zero, List.set_cons_succ]
            refine wpAnyH_take (i := 8) (oi := _) (v := .bool ok) rfl (by kernel_rfl) (by kernel_rfl) (by kernel_rfl) (fun _ _ _ h => h) (Or.inl ⟨by rfl, fun W hSw => by obtain ⟨s8, s0, s1, s2, s3, s4, s5, s6, s7⟩ := hSw; go_simp⟩) hHeld ?_
            simp only [Act.put, List.setIfInBounds_toArray, List.set_cons_zero, List.set_cons_succ]
            refine wpAnyH_take (i := 9) (oi := _) (v := .bool ok) rfl (by kernel_rfl) (by kernel_rfl) (by kernel_rfl) (fun _ _ _ h => h) (Or.inl ⟨by rfl, fun W hSw => by obtain ⟨s8, s0, s1, s2, s3, s4, s5, s6, s7⟩ := hSw; go_simp⟩) hHeld ?_
            simp only [Act.put, List.setIfInBounds_toArray, List.set_cons_zero, List.set_cons_succ]
            have hRw := (EvAt.below (EvAt.below hR5 hb6 hR5.lt) hb7 (by have := hR5.lt; have := hb6.size; omega))
            obtain ⟨z0, z1, z2, z3, z4, z5, z6, z7⟩ := hRw.all
            have y0 := hRw.frozen 0; have y1 := hRw.frozen 1; have y2 := hRw.frozen 2; have y3 := hRw.frozen 3; have y4 := hRw.frozen 4; have y5 := hRw.frozen 5; have y6 := hRw.frozen 6; have y7 := hRw.frozen 7
            obtain ⟨w8, hw8⟩ : ∃ w8, w8 = (World.setCell (World.setCell (World.setCell (World.setCell (World.setCell (World.setCell (World.setCell (World.setCell w7 ⟨w.heap.size, 0, none⟩ (.int .i64 X.kind)) ⟨w.heap.size, 1, none⟩ (.int .i64 X.key)) ⟨w.heap.size, 2, none⟩ (.int .i64 X.slot)) ⟨w.heap.size, 3, none⟩ (.int .i64 X.gen)) ⟨w.heap.size, 4, none⟩ (.bool X.good)) ⟨w.heap.size, 5, none⟩ (.int .i64 X.req)) ⟨w.heap.size, 6, none⟩ (.int .i64 X.be)) ⟨w.heap.size, 7, none⟩ (.int .i64 X.wt)) := ⟨_, rfl⟩
            have hE8 : EvAt w8 (w.heap.size + 1 + 1) X := by rw [hw8]; exact ev_other8 (EvAt.below (hE5.below hb6 hE5.lt) hb7 (by have := hE5.lt; have := hb6.size; omega)) (by simp; omega) _ _ _ _ _ _ _ _
            have hR8 : EvAt w8 w.heap.size X := by rw [hw8]; exact ev_sets hRw X
            have hB8 : Below w.heap.size w w8 := by rw [hw8]; exact below_sets ((hB5.trans (hb6.mono hB5.size)).trans (hb7.mono (hB5.trans (hb6.mono hB5.size)).size)) (Nat.le_refl _) _ _ _ _ _ _ _ _
            refine wpAnyH_ready (rs := [10]) (by kernel_rfl) (by simp) ?_
            refine AllReadyH.cons (o := _) rfl (fun K hK => ?_) AllReadyH.nil
            rw [if_pos (by rfl)]
            have HW8 := Lib.hid hw8
            clear hw8
            go_wp2
            rw [← HW8.out]
            refine hK.out _ _ (sx hE8) (fun hHeld => ?_)
            clear hK K
            try simp only [Act.put, List.setIfInBounds_toArray, List.set_cons_zero, List.set_cons_succ]
            refine wpAnyH_ready (rs := [11]) (by kernel_rfl) (by simp) ?_
            refine AllReadyH.cons (o := _) rfl (fun K hK => ?_) AllReadyH.nil
            go_simp
            refine hK.out _ _ hHeld (fun hHeld => ?_)
            clear hK K
            try simp only [Act.put, List.setIfInBounds_toArray, List.set_cons_zero, List.set_cons_succ]
            refine wpAnyH_done (by kernel_rfl) ?_ _
            go_wp2
            refine bodyPost_ret (v := .tuple #[evA X, .bool ok]) (results_ct Tryd.results24 rfl rfl (load_ev hR8)) rfl ?_
            refine ⟨X, ?_, ?_, hB8⟩
            · rw [HEV.out]; by_cases hq : lineB X = line
              · rw [if_pos ⟨HFA.out, hq⟩, HOK.out, hq]; simp
              · rw [if_neg (fun h => hq h.2), HOK.out, beq_eq_false_iff_ne.2 hq]; rfl
            · intro y hy; rw [HEV.out] at hy; split at hy
              · exact Option.some.inj hy
              · cases hy
          · have hfb : (fault X == 0) = false := beq_eq_false_iff_ne.2 hfa
            refine wp_region_held_drew (S := (fun w' => EvAt w' (w.heap.size + 1 + 1) X ∧ w'.cell? ⟨w.heap.size + 1 + 1, 0, none⟩ = some (.int .i64 X.kind) ∧ w'.cell? ⟨w.heap.size + 1 + 1, 1, none⟩ = some (.int .i64 X.key) ∧ w'.cell? ⟨w.heap.size + 1 + 1, 2, none⟩ = some (.int .i64 X.slot) ∧ w'.cell? ⟨w.heap.size + 1 + 1, 3, none⟩ = some (.int .i64 X.gen) ∧ w'.cell? ⟨w.heap.size + 1 + 1, 4, none⟩ = some (.bool X.good) ∧ w'.cell? ⟨w.heap.size + 1 + 1, 5, none⟩ = some (.int .i64 X.req) ∧ w'.cell? ⟨w.heap.size + 1 + 1, 6, none⟩ = some (.int .i64 X.be) ∧ w'.cell? ⟨w.heap.size + 1 + 1, 7, none⟩ = some (.int .i64 X.wt))) (by kernel_rfl) (sx hE5) (fun hHeld => ?_)
            refine wpAnyH_take (i := 0) (oi := _) (v := evA X) rfl (by kernel_rfl) (by kernel_rfl) (by kernel_rfl) (fun _ _ _ h => h) (Or.inl ⟨by rfl, fun W hSw => by obtain ⟨s8, s0, s1, s2, s3, s4, s5, s6, s7⟩ := hSw; go_simp⟩) hHeld ?_
            simp only [Act.put, List.setIfInBounds_toArray, List.set_cons_zero, List.set_cons_succ]
            refine wpAnyH_take (i := 1) (oi := _) (v := evA X) rfl (by kernel_rfl) (by kernel_rfl) (by kernel_rfl) (fun _ _ _ h => h) (Or.inl ⟨by rfl, fun W hSw => by obtain ⟨s8, s0, s1, s2, s3, s4, s5, s6, s7⟩ := hSw; go_simp⟩) hHeld ?_
            simp only [Act.put, List.setIfInBounds_toArray, List.set_cons_zero, List.set_cons_succ]
            refine wpAnyH_ready (rs := [2]) (by kernel_rfl) (by simp) ?_
            refine AllReadyH.cons (o := _) rfl (fun K hK => ?_) AllReadyH.nil
            rw [if_pos (by rfl)]
            go_wp2_with fail
            refine (check_any X _).mono ?_
            rintro r w6 ⟨rfl, hb6'⟩
            have hb6 := below_of_drew hb6'
            try go_wp2
            refine hK.out _ _ (sx (hE5.below hb6 hE5.lt)) (fun hHeld => ?_)
            clear hK K
            try simp only [Act.put, List.setIfInBounds_toArray, List.set_cons_zero, List.set_cons_succ]
            refine wpAnyH_take (i := 3) (oi := _) (v := .bool false) rfl (by kernel_rfl) (by kernel_rfl) (by kernel_rfl) (fun _ _ _ h => h) (Or.inl ⟨by rfl, fun W hSw => by obtain ⟨s8, s0, s1, s2, s3, s4, s5, s6, s7⟩ := hSw; go_simp⟩) hHeld ?_
            simp only [Act.put, List.setIfInBounds_toArray, List.set_cons_zero, List.set_cons_succ]
            refine wpAnyH_take (i := 4) (oi := _) (v := .bool false) rfl (by kernel_rfl) (by kernel_rfl) (by kernel_rfl) (fun _ _ _ h => h) (Or.inl ⟨by rfl, fun W hSw => by obtain ⟨s8, s0, s1, s2, s3, s4, s5, s6, s7⟩ := hSw; go_simp⟩) hHeld ?_
            simp only [Act.put, List.setIfInBounds_toArray, List.set_cons_zero, List.set_cons_succ]
            refine wpAnyH_take (i := 5) (oi := _) (v := undef) rfl (by kernel_rfl) (by kernel_rfl) (by kernel_rfl) (fun _ _ _ h => h) (Or.inr ⟨by rfl, rfl⟩) hHeld ?_
            simp only [Act.put, List.setIfInBounds_toArray, List.set_cons_zero, List.set_cons_succ]
            refine wpAnyH_take (i := 6) (oi := _) (v := undef) rfl (by kernel_rfl) (by kernel_rfl) (by kernel_rfl) (fun _ _ _ h => h) (Or.inr ⟨by rfl, rfl⟩) hHeld ?_
            simp only [Act.put, List.setIfInBounds_toArray, List.set_cons_zero, List.set_cons_succ]
            refine wpAnyH_take (i := 7) (oi := _) (v := undef) rfl (by kernel_rfl) (by kernel_rfl) (by kernel_rfl) (fun _ _ _ h => h) (Or.inr ⟨by rfl, rfl⟩) hHeld ?_
            simp only [Act.put, List.setIfInBounds_toArray, List.set_cons_zero, List.set_cons_succ]
            refine wpAnyH_take (i := 8) (oi := _) (v := undef) rfl (by kernel_rfl) (by kernel_rfl) (by kernel_rfl) (fun _ _ _ h => h) (Or.inr ⟨by rfl, rfl⟩) hHeld ?_
            simp only [Act.put, List.setIfInBounds_toArray, List.set_cons_zero, List.set_cons_succ]
            refine wpAnyH_take (i := 9) (oi := _) (v := .bool false) rfl (by kernel_rfl) (by kernel_rfl) (by kernel_rfl) (fun _ _ _ h => h) (Or.inl ⟨by rfl, fun W hSw => by obtain ⟨s8, s0, s1, s2, s3, s4, s5, s6, s7⟩ := hSw; go_simp⟩) hHeld ?_
            simp only [Act.put, List.setIfInBounds_toArray, List.set_cons_zero, List.set_cons_succ]
            have hRw := (hR5.below hb6 hR5.lt)
            obtain ⟨z0, z1, z2, z3, z4, z5, z6, z7⟩ := hRw.all
            have y0 := hRw.frozen 0; have y1 := hRw.frozen 1; have y2 := hRw.frozen 2; have y3 := hRw.frozen 3; have y4 := hRw.frozen 4; have y5 := hRw.frozen 5; have y6 := hRw.frozen 6; have y7 := hRw.frozen 7
            obtain ⟨w8, hw8⟩ : ∃ w8, w8 = (World.setCell (World.setCell (World.setCell (World.setCell (World.setCell (World.setCell (World.setCell (World.setCell w6 ⟨w.heap.size, 0, none⟩ (.int .i64 X.kind)) ⟨w.heap.size, 1, none⟩ (.int .i64 X.key)) ⟨w.heap.size, 2, none⟩ (.int .i64 X.slot)) ⟨w.heap.size, 3, none⟩ (.int .i64 X.gen)) ⟨w.heap.size, 4, none⟩ (.bool X.good)) ⟨w.heap.size, 5, none⟩ (.int .i64 X.req)) ⟨w.heap.size, 6, none⟩ (.int .i64 X.be)) ⟨w.heap.size, 7, none⟩ (.int .i64 X.wt)) := ⟨_, rfl⟩
            have hE8 : EvAt w8 (w.heap.size + 1 + 1) X := by rw [hw8]; exact ev_other8 (hE5.below hb6 hE5.lt) (by simp; omega) _ _ _ _ _ _ _ _
            have hR8 : EvAt w8 w.heap.size X := by rw [hw8]; exact ev_sets hRw X
            have hB8 : Below w.heap.size w w8 := by rw [hw8]; exact below_sets (hB5.trans (hb6.mono hB5.size)) (Nat.le_refl _) _ _ _ _ _ _ _ _
            refine wpAnyH_ready (rs := [10]) (by kernel_rfl) (by simp) ?_
            refine AllReadyH.cons (o := _) rfl (fun K hK => ?_) AllReadyH.nil
            rw [if_pos (by rfl)]
            have HW8 := Lib.hid hw8
            clear hw8
            go_wp2
            rw [← HW8.out]
            refine hK.out _ _ (sx hE8) (fun hHeld => ?_)
            clear hK K
            try simp only [Act.put, List.setIfInBounds_toArray, List.set_cons_zero, List.set_cons_succ]
            refine wpAnyH_ready (rs := [11]) (by kernel_rfl) (by simp) ?_
            refine AllReadyH.cons (o := _) rfl (fun K hK => ?_) AllReadyH.nil
            go_simp
            refine hK.out _ _ hHeld (fun hHeld => ?_)
            clear hK K
            try simp only [Act.put, List.setIfInBounds_toArray, List.set_cons_zero, List.set_cons_succ]
            refine wpAnyH_done (by kernel_rfl) ?_ _
            go_wp2
            refine bodyPost_ret (v := .tuple #[evA X, .bool false]) (results_ct Tryd.results24 rfl rfl (load_ev hR8)) rfl ?_
            refine ⟨X, ?_, ?_, hB8⟩
            · rw [HEV.out, if_neg (fun h => hfa h.1)]; rfl
            · intro y hy; rw [HEV.out, if_neg (fun h => hfa h.1)] at hy; cases hy
      · have h4' : (k == 4) = false := beq_eq_false_iff_ne.2 h4
        go_wp2
        obtain ⟨X, hX⟩ : ∃ X, X = ({ x with good := false } : Ev) := ⟨_, rfl⟩
        have HEV : Hid (evP line = if fault X = 0 ∧ lineB X = line then some X else none) := by unfold Hid evP; rw [HX.out.2.2.2, hX]; simp [h4]
        obtain ⟨w5, hw5⟩ : ∃ w5, w5 = w4.setCell ⟨w.heap.size + 1 + 1, 4, none⟩ (.bool false) := ⟨_, rfl⟩
        have hE5 : EvAt w5 (w.heap.size + 1 + 1) X := by rw [hw5, hX]; exact hEx.good false
        have hR5 : EvAt w5 w.heap.size Ev.zero := by rw [hw5]; exact hR4.other _ _ (by simp; omega)
        have hB5 : Below w.heap.size w w5 := by rw [hw5]; exact hB4.setCell (p := ⟨w.heap.size + 1 + 1, 4, none⟩) (by simp; omega) _
        rw [← hw5]
        have HX5 := Lib.hid (And.intro hX hw5)
        clear hX hw5 e0 e1 e2 e3 e4 e5 e6 e7 f4 hl4 z0 z1 z2 z3 z4 z5 z6 z7
        obtain ⟨e0, e1, e2, e3, e4, e5, e6, e7⟩ := hE5.all
        have hi34 : (Tryd.prog.info? 34).map (·.size) = some 8 := by kernel_rfl
        by_cases hfa : fault X = 0
        · have HFA := Lib.hid hfa
          clear hfa
          obtain ⟨ok, hok⟩ : ∃ ok, ok = (lineB X == line) := ⟨_, rfl⟩
          have HOK := Lib.hid hok
          have hok' := hok.symm
          clear hok
          refine wp_region_held_drew (S := (fun w' => EvAt w' (w.heap.size + 1 + 1) X ∧ w'.cell? ⟨w.heap.size + 1 + 1, 0, none⟩ = some (.int .i64 X.kind) ∧ w'.cell? ⟨w.heap.size + 1 + 1, 1, none⟩ = some (.int .i64 X.key) ∧ w'.cell? ⟨w.heap.size + 1 + 1, 2, none⟩ = some (.int .i64 X.slot) ∧ w'.cell? ⟨w.heap.size + 1 + 1, 3, none⟩ = some (.int .i64 X.gen) ∧ w'.cell? ⟨w.heap.size + 1 + 1, 4, none⟩ = some (.bool X.good) ∧ w'.cell? ⟨w.heap.size + 1 + 1, 5, none⟩ = some (.int .i64 X.req) ∧ w'.cell? ⟨w.heap.size + 1 + 1, 6, none⟩ = some (.int .i64 X.be) ∧ w'.cell? ⟨w.heap.size + 1 + 1, 7, none⟩ = some (.int .i64 X.wt))) (by kernel_rfl) (sx hE5) (fun hHeld => ?_)
          refine wpAnyH_take (i := 0) (oi := _) (v := evA X) rfl (by kernel_rfl) (by kernel_rfl) (by kernel_rfl) (fun _ _ _ h => h) (Or.inl ⟨by rfl, fun W hSw => by obtain ⟨s8, s0, s1, s2, s3, s4, s5, s6, s7⟩ := hSw; go_simp⟩) hHeld ?_
          simp only [Act.put, List.setIfInBounds_toArray, List.set_cons_zero, List.set_cons_succ]
          refine wpAnyH_take (i := 1) (oi := _) (v := evA X) rfl (by kernel_rfl) (by kernel_rfl) (by kernel_rfl) (fun _ _ _ h => h) (Or.inl ⟨by rfl, fun W hSw => by obtain ⟨s8, s0, s1, s2, s3, s4, s5, s6, s7⟩ := hSw; go_simp⟩) hHeld ?_
          simp only [Act.put, List.setIfInBounds_toArray, List.set_cons_zero, List.set_cons_succ]
          refine wpAnyH_ready (rs := [2]) (by kernel_rfl) (by simp) ?_
          refine AllReadyH.cons (o := _) rfl (fun K hK => ?_) AllReadyH.nil
          rw [if_pos (by rfl)]
          go_wp2_with fail
          refine (check_any X _).mono ?_
          rintro r w6 ⟨rfl, hb6'⟩
          have hb6 := below_of_drew hb6'
          rw [HFA.out]
          try go_wp2
          refine hK.out _ _ (sx (hE5.below hb6 hE5.lt)) (fun hHeld => ?_)
          clear hK K
          try simp only [Act.put, List.setIfInBounds_toArray, List.set_cons_zero, List.set_cons_succ]
          refine wpAnyH_take (i := 3) (oi := _) (v := .bool true) rfl (by kernel_rfl) (by kernel_rfl) (by kernel_rfl) (fun _ _ _ h => h) (Or.inl ⟨by rfl, fun W hSw => by obtain ⟨s8, s0, s1, s2, s3, s4, s5, s6, s7⟩ := hSw; go_simp⟩) hHeld ?_
          simp only [Act.put, List.setIfInBounds_toArray, List.set_cons_zero, List.set_cons_succ]
          refine wpAnyH_take (i := 4) (oi := _) (v := .bool true) rfl (by kernel_rfl) (by kernel_rfl) (by kernel_rfl) (fun _ _ _ h => h) (Or.inl ⟨by rfl, fun W hSw => by obtain ⟨s8, s0, s1, s2, s3, s4, s5, s6, s7⟩ := hSw; go_simp⟩) hHeld ?_
          simp only [Act.put, List.setIfInBounds_toArray, List.set_cons_zero, List.set_cons_succ]
          refine wpAnyH_take (i := 5) (oi := _) (v := evA X) rfl (by kernel_rfl) (by kernel_rfl) (by kernel_rfl) (fun _ _ _ h => h) (Or.inl ⟨by rfl, fun W hSw => by obtain ⟨s8, s0, s1, s2, s3, s4, s5, s6, s7⟩ := hSw; go_simp⟩) hHeld ?_
          simp only [Act.put, List.setIfInBounds_toArray, List.set_cons_zero, List.set_cons_succ]
          refine wpAnyH_take (i := 7) (oi := _) (v := .string ⟨line.toArray⟩) rfl (by kernel_rfl) (by kernel_rfl) (by kernel_rfl) (fun _ _ _ h => h) (Or.inl ⟨by rfl, fun W hSw => by obtain ⟨s8, s0, s1, s2, s3, s4, s5, s6, s7⟩ := hSw; go_simp⟩) hHeld ?_
          simp only [Act.put, List.setIfInBounds_toArray, List.set_cons_zero, List.set_cons_succ]
          refine wpAnyH_ready (rs := [6]) (by kernel_rfl) (by simp) ?_
          refine AllReadyH.cons (o := _) rfl (fun K hK => ?_) AllReadyH.nil
          rw [if_pos (by rfl)]
          go_wp2_with fail
          refine (line_any X _ (HG.out.1.below (hB5.trans (hb6.mono hB5.size)) h9) HFA.out).mono ?_
          rintro r w7 ⟨rfl, hb7⟩
          try go_wp2
          refine hK.out _ _ (sx (EvAt.below (hE5.below hb6 hE5.lt) hb7 (by have := hE5.lt; have := hb6.size; omega))) (fun hHeld => ?_)
          clear hK K
          try simp only [Act.put, List.setIfInBounds_toArray, List.set_cons_zero, List.set_cons_succ]
          refine wpAnyH_take (i := 8) (oi := _) (v := .bool ok) rfl (by kernel_rfl) (by kernel_rfl) (by kernel_rfl) (fun _ _ _ h => h) (Or.inl ⟨by rfl, fun W hSw => by obtain ⟨s8, s0, s1, s2, s3, s4, s5, s6, s7⟩ := hSw; go_simp⟩) hHeld ?_
          simp only [Act.put, List.setIfInBounds_toArray, List.set_cons_zero, List.set_cons_succ]
          refine wpAnyH_take (i := 9) (oi := _) (v := .bool ok) rfl (by kernel_rfl) (by kernel_rfl) (by kernel_rfl) (fun _ _ _ h => h) (Or.inl ⟨by rfl, fun W hSw => by obtain ⟨s8, s0, s1, s2, s3, s4, s5, s6, s7⟩ := hSw; go_simp⟩) hHeld ?_
          simp only [Act.put, List.setIfInBounds_toArray, List.set_cons_zero, List.set_cons_succ]
          have hRw := (EvAt.below (EvAt.below hR5 hb6 hR5.lt) hb7 (by have := hR5.lt; have := hb6.size; omega))
          obtain ⟨z0, z1, z2, z3, z4, z5, z6, z7⟩ := hRw.all
          have y0 := hRw.frozen 0; have y1 := hRw.frozen 1; have y2 := hRw.frozen 2; have y3 := hRw.frozen 3; have y4 := hRw.frozen 4; have y5 := hRw.frozen 5; have y6 := hRw.frozen 6; have y7 := hRw.frozen 7
          obtain ⟨w8, hw8⟩ : ∃ w8, w8 = (World.setCell (World.setCell (World.setCell (World.setCell (World.setCell (World.setCell (World.setCell (World.setCell w7 ⟨w.heap.size, 0, none⟩ (.int .i64 X.kind)) ⟨w.heap.size, 1, none⟩ (.int .i64 X.key)) ⟨w.heap.size, 2, none⟩ (.int .i64 X.slot)) ⟨w.heap.size, 3, none⟩ (.int .i64 X.gen)) ⟨w.heap.size, 4, none⟩ (.bool X.good)) ⟨w.heap.size, 5, none⟩ (.int .i64 X.req)) ⟨w.heap.size, 6, none⟩ (.int .i64 X.be)) ⟨w.heap.size, 7, none⟩ (.int .i64 X.wt)) := ⟨_, rfl⟩
          have hE8 : EvAt w8 (w.heap.size + 1 + 1) X := by rw [hw8]; exact ev_other8 (EvAt.below (hE5.below hb6 hE5.lt) hb7 (by have := hE5.lt; have := hb6.size; omega)) (by simp; omega) _ _ _ _ _ _ _ _
          have hR8 : EvAt w8 w.heap.size X := by rw [hw8]; exact ev_sets hRw X
          have hB8 : Below w.heap.size w w8 := by rw [hw8]; exact below_sets ((hB5.trans (hb6.mono hB5.size)).trans (hb7.mono (hB5.trans (hb6.mono hB5.size)).size)) (Nat.le_refl _) _ _ _ _ _ _ _ _
          refine wpAnyH_ready (rs := [10]) (by kernel_rfl) (by simp) ?_
          refine AllReadyH.cons (o := _) rfl (fun K hK => ?_) AllReadyH.nil
          rw [if_pos (by rfl)]
          have HW8 := Lib.hid hw8
          clear hw8
          go_wp2
          rw [← HW8.out]
          refine hK.out _ _ (sx hE8) (fun hHeld => ?_)
          clear hK K
          try simp only [Act.put, List.setIfInBounds_toArray, List.set_cons_zero, List.set_cons_succ]
          refine wpAnyH_ready (rs := [11]) (by kernel_rfl) (by simp) ?_
          refine AllReadyH.cons (o := _) rfl (fun K hK => ?_) AllReadyH.nil
          go_simp
          refine hK.out _ _ hHeld (fun hHeld => ?_)
          clear hK K
          try simp only [Act.put, List.setIfInBounds_toArray, List.set_cons_zero, List.set_cons_succ]
          refine wpAnyH_done (by kernel_rfl) ?_ _
          go_wp2
          refine bodyPost_ret (v := .tuple #[evA X, .bool ok]) (results_ct Tryd.results24 rfl rfl (load_ev hR8)) rfl ?_
          refine ⟨X, ?_, ?_, hB8⟩
          · rw [HEV.out]; by_cases hq : lineB X = line
            · rw [if_pos ⟨HFA.out, hq⟩, HOK.out, hq]; simp
            · rw [if_neg (fun h => hq h.2), HOK.out, beq_eq_false_iff_ne.2 hq]; rfl
          · intro y hy; rw [HEV.out] at hy; split at hy
            · exact Option.some.inj hy
            · cases hy
        · have hfb : (fault X == 0) = false := beq_eq_false_iff_ne.2 hfa
          refine wp_region_held_drew (S := (fun w' => EvAt w' (w.heap.size + 1 + 1) X ∧ w'.cell? ⟨w.heap.size + 1 + 1, 0, none⟩ = some (.int .i64 X.kind) ∧ w'.cell? ⟨w.heap.size + 1 + 1, 1, none⟩ = some (.int .i64 X.key) ∧ w'.cell? ⟨w.heap.size + 1 + 1, 2, none⟩ = some (.int .i64 X.slot) ∧ w'.cell? ⟨w.heap.size + 1 + 1, 3, none⟩ = some (.int .i64 X.gen) ∧ w'.cell? ⟨w.heap.size + 1 + 1, 4, none⟩ = some (.bool X.good) ∧ w'.cell? ⟨w.heap.size + 1 + 1, 5, none⟩ = some (.int .i64 X.req) ∧ w'.cell? ⟨w.heap.size + 1 + 1, 6, none⟩ = some (.int .i64 X.be) ∧ w'.cell? ⟨w.heap.size + 1 + 1, 7, none⟩ = some (.int .i64 X.wt))) (by kernel_rfl) (sx hE5) (fun hHeld => ?_)
          refine wpAnyH_take (i := 0) (oi := _) (v := evA X) rfl (by kernel_rfl) (by kernel_rfl) (by kernel_rfl) (fun _ _ _ h => h) (Or.inl ⟨by rfl, fun W hSw => by obtain ⟨s8, s0, s1, s2, s3, s4, s5, s6, s7⟩ := hSw; go_simp⟩) hHeld ?_
          simp only [Act.put, List.setIfInBounds_toArray, List.set_cons_zero, List.set_cons_succ]
          refine wpAnyH_take (i := 1) (oi := _) (v := evA X) rfl (by kernel_rfl) (by kernel_rfl) (by kernel_rfl) (fun _ _ _ h => h) (Or.inl ⟨by rfl, fun W hSw => by obtain ⟨s8, s0, s1, s2, s3, s4, s5, s6, s7⟩ := hSw; go_simp⟩) hHeld ?_
          simp only [Act.put, List.setIfInBounds_toArray, List.set_cons_zero, List.set_cons_succ]
          refine wpAnyH_ready (rs := [2]) (by kernel_rfl) (by simp) ?_
          refine AllReadyH.cons (o := _) rfl (fun K hK => ?_) AllReadyH.nil
          rw [if_pos (by rfl)]
          go_wp2_with fail
          refine (check_any X _).mono ?_
          rintro r w6 ⟨rfl, hb6'⟩
          have hb6 := below_of_drew hb6'
          try go_wp2
          refine hK.out _ _ (sx (hE5.below hb6 hE5.lt)) (fun hHeld => ?_)
          clear hK K
          try simp only [Act.put, List.setIfInBounds_toArray, List.set_cons_zero, List.set_cons_succ]
          refine wpAnyH_take (i := 3) (oi := _) (v := .bool false) rfl (by kernel_rfl) (by kernel_rfl) (by kernel_rfl) (fun _ _ _ h => h) (Or.inl ⟨by rfl, fun W hSw => by obtain ⟨s8, s0, s1, s2, s3, s4, s5, s6, s7⟩ := hSw; go_simp⟩) hHeld ?_
          simp only [Act.put, List.setIfInBounds_toArray, List.set_cons_zero, List.set_cons_succ]
          refine wpAnyH_take (i := 4) (oi := _) (v := .bool false) rfl (by kernel_rfl) (by kernel_rfl) (by kernel_rfl) (fun _ _ _ h => h) (Or.inl ⟨by rfl, fun W hSw => by obtain ⟨s8, s0, s1, s2, s3, s4, s5, s6, s7⟩ := hSw; go_simp⟩) hHeld ?_
          simp only [Act.put, List.setIfInBounds_toArray, List.set_cons_zero, List.set_cons_succ]
          refine wpAnyH_take (i := 5) (oi := _) (v := undef) rfl (by kernel_rfl) (by kernel_rfl) (by kernel_rfl) (fun _ _ _ h => h) (Or.inr ⟨by rfl, rfl⟩) hHeld ?_
          simp only [Act.put, List.setIfInBounds_toArray, List.set_cons_zero, List.set_cons_succ]
          refine wpAnyH_take (i := 6) (oi := _) (v := undef) rfl (by kernel_rfl) (by kernel_rfl) (by kernel_rfl) (fun _ _ _ h => h) (Or.inr ⟨by rfl, rfl⟩) hHeld ?_
          simp only [Act.put, List.setIfInBounds_toArray, List.set_cons_zero, List.set_cons_succ]
          refine wpAnyH_take (i := 7) (oi := _) (v := undef) rfl (by kernel_rfl) (by kernel_rfl) (by kernel_rfl) (fun _ _ _ h => h) (Or.inr ⟨by rfl, rfl⟩) hHeld ?_
          simp only [Act.put, List.setIfInBounds_toArray, List.set_cons_zero, List.set_cons_succ]
          refine wpAnyH_take (i := 8) (oi := _) (v := undef) rfl (by kernel_rfl) (by kernel_rfl) (by kernel_rfl) (fun _ _ _ h => h) (Or.inr ⟨by rfl, rfl⟩) hHeld ?_
          simp only [Act.put, List.setIfInBounds_toArray, List.set_cons_zero, List.set_cons_succ]
          refine wpAnyH_take (i := 9) (oi := _) (v := .bool false) rfl (by kernel_rfl) (by kernel_rfl) (by kernel_rfl) (fun _ _ _ h => h) (Or.inl ⟨by rfl, fun W hSw => by obtain ⟨s8, s0, s1, s2, s3, s4, s5, s6, s7⟩ := hSw; go_simp⟩) hHeld ?_
          simp only [Act.put, List.setIfInBounds_toArray, List.set_cons_zero, List.set_cons_succ]
          have hRw := (hR5.below hb6 hR5.lt)
          obtain ⟨z0, z1, z2, z3, z4, z5, z6, z7⟩ := hRw.all
          have y0 := hRw.frozen 0; have y1 := hRw.frozen 1; have y2 := hRw.frozen 2; have y3 := hRw.frozen 3; have y4 := hRw.frozen 4; have y5 := hRw.frozen 5; have y6 := hRw.frozen 6; have y7 := hRw.frozen 7
          obtain ⟨w8, hw8⟩ : ∃ w8, w8 = (World.setCell (World.setCell (World.setCell (World.setCell (World.setCell (World.setCell (World.setCell (World.setCell w6 ⟨w.heap.size, 0, none⟩ (.int .i64 X.kind)) ⟨w.heap.size, 1, none⟩ (.int .i64 X.key)) ⟨w.heap.size, 2, none⟩ (.int .i64 X.slot)) ⟨w.heap.size, 3, none⟩ (.int .i64 X.gen)) ⟨w.heap.size, 4, none⟩ (.bool X.good)) ⟨w.heap.size, 5, none⟩ (.int .i64 X.req)) ⟨w.heap.size, 6, none⟩ (.int .i64 X.be)) ⟨w.heap.size, 7, none⟩ (.int .i64 X.wt)) := ⟨_, rfl⟩
          have hE8 : EvAt w8 (w.heap.size + 1 + 1) X := by rw [hw8]; exact ev_other8 (hE5.below hb6 hE5.lt) (by simp; omega) _ _ _ _ _ _ _ _
          have hR8 : EvAt w8 w.heap.size X := by rw [hw8]; exact ev_sets hRw X
          have hB8 : Below w.heap.size w w8 := by rw [hw8]; exact below_sets (hB5.trans (hb6.mono hB5.size)) (Nat.le_refl _) _ _ _ _ _ _ _ _
          refine wpAnyH_ready (rs := [10]) (by kernel_rfl) (by simp) ?_
          refine AllReadyH.cons (o := _) rfl (fun K hK => ?_) AllReadyH.nil
          rw [if_pos (by rfl)]
          have HW8 := Lib.hid hw8
          clear hw8
          go_wp2
          rw [← HW8.out]
          refine hK.out _ _ (sx hE8) (fun hHeld => ?_)
          clear hK K
          try simp only [Act.put, List.setIfInBounds_toArray, List.set_cons_zero, List.set_cons_succ]
          refine wpAnyH_ready (rs := [11]) (by kernel_rfl) (by simp) ?_
          refine AllReadyH.cons (o := _) rfl (fun K hK => ?_) AllReadyH.nil
          go_simp
          refine hK.out _ _ hHeld (fun hHeld => ?_)
          clear hK K
          try simp only [Act.put, List.setIfInBounds_toArray, List.set_cons_zero, List.set_cons_succ]
          refine wpAnyH_done (by kernel_rfl) ?_ _
          go_wp2
          refine bodyPost_ret (v := .tuple #[evA X, .bool false]) (results_ct Tryd.results24 rfl rfl (load_ev hR8)) rfl ?_
          refine ⟨X, ?_, ?_, hB8⟩
          · rw [HEV.out, if_neg (fun h => hfa h.1)]; rfl
          · intro y hy; rw [HEV.out, if_neg (fun h => hfa h.1)] at hy; cases hy
  · have HS2 : Hid (∀ x, Below w2.heap.size w2 x → StrsAt x (.slice (some ⟨w.heap.size + 1, 1, none⟩) (n - 1) (n - 1)) pt) := fun x hx => (HST.out x hx).2 hn1'
    go_region_held3 (fun w' => True) (go_keep)
      (first
    | (go_at_call 31; refine (nb_any (w.heap.size + 1 + 1) k _ (by exact hcW)).mono ?_; rintro r w3 ⟨v, rfl, hb3', hpt⟩; have hb3 := below_of_drew hb3')
    | (go_at_call 44; refine (fill_any (offs k) pt E0 (w.heap.size + 1 + 1) _ v _ w3 (hG1.below (HW.out.2.2.trans (Below.mono hb3 (by simp [hWs, hs1]))) (by omega)) hpt (by simp [hWs]) (by omega) (HS2.out w3 (HW.out.2.2.trans (Below.mono hb3 (by simp [hWs, hs1])))) (by intro x hx; cases hx; show w.heap.size + 1 ≠ w.heap.size + 1 + 1; omega) (HW.out.2.1.below hb3 (by simp [hWs])) (offs_ok k) (fun p hp => HH.out.2.1 p (List.mem_cons_of_mem _ hp))).mono ?_; rintro r w4 ⟨rfl, hE4, hg4⟩))
    have hR4 : EvAt w4 w.heap.size Ev.zero := EvAt.grown (EvAt.below (EvAt.below hRes HW.out.2.2 (by omega)) hb3 (by omega)) hg4 (by omega)
    have hB4 : Below w.heap.size w w4 := (hB1.trans ((HW.out.2.2.trans (hb3.mono (by omega))).mono (by omega))).grown hg4 (by have := hb3.size; omega) (by intro j hj; cases hj; omega)
    obtain ⟨z0, z1, z2, z3, z4, z5, z6, z7⟩ := hR4.all
    cases hF : fillP (offs k) pt E0 with
    | none =>
      have y0 := hR4.frozen 0; have y1 := hR4.frozen 1; have y2 := hR4.frozen 2; have y3 := hR4.frozen 3; have y4 := hR4.frozen 4; have y5 := hR4.frozen 5; have y6 := hR4.frozen 6; have y7 := hR4.frozen 7
      go_wp2
      refine bodyPost_ret (v := .tuple #[evA Ev.zero, .bool false]) (results_ct Tryd.results24 rfl rfl (load_ev (ev_sets hR4 Ev.zero))) rfl ?_
      have hnone : evP line = none := by unfold evP; rw [rawP_of HP.out HK.out HE0.out, hF]; rfl
      refine ⟨Ev.zero, by rw [hnone]; rfl, fun y hy => (by rw [hnone] at hy; cases hy), ?_⟩
      exact below_sets hB4 (Nat.le_refl _) _ _ _ _ _ _ _ _
    | some x =>
      have hk4 : x.kind = k := by have := fillP_kind _ _ _ _ hF; rw [this, HE0.out]
      have hEx : EvAt w4 (w.heap.size + 1 + 1) x := hE4 x hF
      obtain ⟨e0, e1, e2, e3, e4, e5, e6, e7⟩ := hEx.all
      rw [hk4] at e0
      have f4 := hEx.frozen 4
      have hl4 : w4.cell? ⟨w.heap.size + 1, n - 1, none⟩ = some (.string ⟨((p0 :: pt).getLastD []).toArray⟩) := by
        rw [hg4.cell_far ⟨w.heap.size + 1, n - 1, none⟩ (by have := hb3.size; simp; omega) (by simp), hb3.cell (p := ⟨w.heap.size + 1, n - 1, none⟩) (by simp; omega), HW.out.2.2.cell (p := ⟨w.heap.size + 1, n - 1, none⟩) (by simp; omega)]; exact hlast
      generalize hlp : (p0 :: pt).getLastD [] = pl at *
      have hraw : rawP line = some { x with good := decide (k = 4) && decide (pl = outB true) } := by
        rw [rawP_of HP.out HK.out HE0.out, hF, hlp]; rfl
      have HX := Lib.hid (And.intro hF (And.intro hk4 (And.intro hlp hraw)))
      clear hF hk4 hlp hraw
      by_cases h4 : k = 4
      · by_cases hpl : pl = [103, 111, 111, 100]
        · subst h4
          subst hpl
          go_wp2
          obtain ⟨X, hX⟩ : ∃ X, X = ({ x with good := true } : Ev) := ⟨_, rfl⟩
          have HEV : Hid (evP line = if fault X = 0 ∧ lineB X = line then some X else none) := by unfold Hid evP; rw [HX.out.2.2.2, hX]; simp [outB]
          obtain ⟨w5, hw5⟩ : ∃ w5, w5 = w4.setCell ⟨w.heap.size + 1 + 1, 4, none⟩ (.bool true) := ⟨_, rfl⟩
          have hE5 : EvAt w5 (w.heap.size + 1 + 1) X := by rw [hw5, hX]; exact hEx.good true
          have hR5 : EvAt w5 w.heap.size Ev.zero := by rw [hw5]; exact hR4.other _ _ (by simp; omega)
          have hB5 : Below w.heap.size w w5 := by rw [hw5]; exact hB4.setCell (p := ⟨w.heap.size + 1 + 1, 4, none⟩) (by simp; omega) _
          rw [← hw5]
          have HX5 := Lib.hid (And.intro hX hw5)
          clear hX hw5 e0 e1 e2 e3 e4 e5 e6 e7 f4 hl4 z0 z1 z2 z3 z4 z5 z6 z7
          obtain ⟨e0, e1, e2, e3, e4, e5, e6, e7⟩ := hE5.all
          have hi34 : (Tryd.prog.info? 34).map (·.size) = some 8 := by kernel_rfl
          by_cases hfa : fault X = 0
          · have HFA := Lib.hid hfa
            clear hfa
            obtain ⟨ok, hok⟩ : ∃ ok, ok = (lineB X == line) := ⟨_, rfl⟩
            have HOK := Lib.hid hok
            have hok' := hok.symm
            clear hok
            refine wp_region_held_drew (S := (fun w' => EvAt w' (w.heap.size + 1 + 1) X ∧ w'.cell? ⟨w.heap.size + 1 + 1, 0, none⟩ = some (.int .i64 X.kind) ∧ w'.cell? ⟨w.heap.size + 1 + 1, 1, none⟩ = some (.int .i64 X.key) ∧ w'.cell? ⟨w.heap.size + 1 + 1, 2, none⟩ = some (.int .i64 X.slot) ∧ w'.cell? ⟨w.heap.size + 1 + 1, 3, none⟩ = some (.int .i64 X.gen) ∧ w'.cell? ⟨w.heap.size + 1 + 1, 4, none⟩ = some (.bool X.good) ∧ w'.cell? ⟨w.heap.size + 1 + 1, 5, none⟩ = some (.int .i64 X.req) ∧ w'.cell? ⟨w.heap.size + 1 + 1, 6, none⟩ = some (.int .i64 X.be) ∧ w'.cell? ⟨w.heap.size + 1 + 1, 7, none⟩ = some (.int .i64 X.wt))) (by kernel_rfl) (sx hE5) (fun hHeld => ?_)
            refine wpAnyH_take (i := 0) (oi := _) (v := evA X) rfl (by kernel_rfl) (by kernel_rfl) (by kernel_rfl) (fun _ _ _ h => h) (Or.inl ⟨by rfl, fun W hSw => by obtain ⟨s8, s0, s1, s2, s3, s4, s5, s6, s7⟩ := hSw; go_simp⟩) hHeld ?_
            simp only [Act.put, List.setIfInBounds_toArray, List.set_cons_zero, List.set_cons_succ]
            refine wpAnyH_take (i := 1) (oi := _) (v := evA X) rfl (by kernel_rfl) (by kernel_rfl) (by kernel_rfl) (fun _ _ _ h => h) (Or.inl ⟨by rfl, fun W hSw => by obtain ⟨s8, s0, s1, s2, s3, s4, s5, s6, s7⟩ := hSw; go_simp⟩) hHeld ?_
            simp only [Act.put, List.setIfInBounds_toArray, List.set_cons_zero, List.set_cons_succ]
            refine wpAnyH_ready (rs := [2]) (by kernel_rfl) (by simp) ?_
            refine AllReadyH.cons (o := _) rfl (fun K hK => ?_) AllReadyH.nil
            rw [if_pos (by rfl)]
            go_wp2_with fail
            refine (check_any X _).mono ?_
            rintro r w6 ⟨rfl, hb6'⟩
            have hb6 := below_of_drew hb6'
            rw [HFA.out]
            try go_wp2
            refine hK.out _ _ (sx (hE5.below hb6 hE5.lt)) (fun hHeld => ?_)
            clear hK K
            try simp only [Act.put, List.setIfInBounds_toArray, List.set_cons_zero, List.set_cons_succ]
            refine wpAnyH_take (i := 3) (oi := _) (v := .bool true) rfl (by kernel_rfl) (by kernel_rfl) (by kernel_rfl) (fun _ _ _ h => h) (Or.inl ⟨by rfl, fun W hSw => by obtain ⟨s8, s0, s1, s2, s3, s4, s5, s6, s7⟩ := hSw; go_simp⟩) hHeld ?_
            simp only [Act.put, List.setIfInBounds_toArray, List.set_cons_zero, List.set_cons_succ]
            refine wpAnyH_take (i := 4) (oi := _) (v := .bool true) rfl (by kernel_rfl) (by kernel_rfl) (by kernel_rfl) (fun _ _ _ h => h) (Or.inl ⟨by rfl, fun W hSw => by obtain ⟨s8, s0, s1, s2, s3, s4, s5, s6, s7⟩ := hSw; go_simp⟩) hHeld ?_
            simp only [Act.put, List.setIfInBounds_toArray, List.set_cons_zero, List.set_cons_succ]
            refine wpAnyH_take (i := 5) (oi := _) (v := evA X) rfl (by kernel_rfl) (by kernel_rfl) (by kernel_rfl) (fun _ _ _ h => h) (Or.inl ⟨by rfl, fun W hSw => by obtain ⟨s8, s0, s1, s2, s3, s4, s5, s6, s7⟩ := hSw; go_simp⟩) hHeld ?_
            simp only [Act.put, List.setIfInBounds_toArray, List.set_cons_zero, List.set_cons_succ]
            refine wpAnyH_take (i := 7) (oi := _) (v := .string ⟨line.toArray⟩) rfl (by kernel_rfl) (by kernel_rfl) (by kernel_rfl) (fun _ _ _ h => h) (Or.inl ⟨by rfl, fun W hSw => by obtain ⟨s8, s0, s1, s2, s3, s4, s5, s6, s7⟩ := hSw; go_simp⟩) hHeld ?_
            simp only [Act.put, List.setIfInBounds_toArray, List.set_cons_zero, List.set_cons_succ]
            refine wpAnyH_ready (rs := [6]) (by kernel_rfl) (by simp) ?_
            refine AllReadyH.cons (o := _) rfl (fun K hK => ?_) AllReadyH.nil
            rw [if_pos (by rfl)]
            go_wp2_with fail
            refine (line_any X _ (HG.out.1.below (hB5.trans (hb6.mono hB5.size)) h9) HFA.out).mono ?_
            rintro r w7 ⟨rfl, hb7⟩
            try go_wp2
            refine hK.out _ _ (sx (EvAt.below (hE5.below hb6 hE5.lt) hb7 (by have := hE5.lt; have := hb6.size; omega))) (fun hHeld => ?_)
            clear hK K
            try simp only [Act.put, List.setIfInBounds_toArray, List.set_cons_zero, List.set_cons_succ]
            refine wpAnyH_take (i := 8) (oi := _) (v := .bool ok) rfl (by kernel_rfl) (by kernel_rfl) (by kernel_rfl) (fun _ _ _ h => h) (Or.inl ⟨by rfl, fun W hSw => by obtain ⟨s8, s0, s1, s2, s3, s4, s5, s6, s7⟩ := hSw; go_simp⟩) hHeld ?_
            simp only [Act.put, List.setIfInBounds_toArray, List.set_cons_zero, List.set_cons_succ]
            refine wpAnyH_take (i := 9) (oi := _) (v := .bool ok) rfl (by kernel_rfl) (by kernel_rfl) (by kernel_rfl) (fun _ _ _ h => h) (Or.inl ⟨by rfl, fun W hSw => by obtain ⟨s8, s0, s1, s2, s3, s4, s5, s6, s7⟩ := hSw; go_simp⟩) hHeld ?_
            simp only [Act.put, List.setIfInBounds_toArray, List.set_cons_zero, List.set_cons_succ]
            have hRw := (EvAt.below (EvAt.below hR5 hb6 hR5.lt) hb7 (by have := hR5.lt; have := hb6.size; omega))
            obtain ⟨z0, z1, z2, z3, z4, z5, z6, z7⟩ := hRw.all
            have y0 := hRw.frozen 0; have y1 := hRw.frozen 1; have y2 := hRw.frozen 2; have y3 := hRw.frozen 3; have y4 := hRw.frozen 4; have y5 := hRw.frozen 5; have y6 := hRw.frozen 6; have y7 := hRw.frozen 7
            obtain ⟨w8, hw8⟩ : ∃ w8, w8 = (World.setCell (World.setCell (World.setCell (World.setCell (World.setCell (World.setCell (World.setCell (World.setCell w7 ⟨w.heap.size, 0, none⟩ (.int .i64 X.kind)) ⟨w.heap.size, 1, none⟩ (.int .i64 X.key)) ⟨w.heap.size, 2, none⟩ (.int .i64 X.slot)) ⟨w.heap.size, 3, none⟩ (.int .i64 X.gen)) ⟨w.heap.size, 4, none⟩ (.bool X.good)) ⟨w.heap.size, 5, none⟩ (.int .i64 X.req)) ⟨w.heap.size, 6, none⟩ (.int .i64 X.be)) ⟨w.heap.size, 7, none⟩ (.int .i64 X.wt)) := ⟨_, rfl⟩
            have hE8 : EvAt w8 (w.heap.size + 1 + 1) X := by rw [hw8]; exact ev_other8 (EvAt.below (hE5.below hb6 hE5.lt) hb7 (by have := hE5.lt; have := hb6.size; omega)) (by simp; omega) _ _ _ _ _ _ _ _
            have hR8 : EvAt w8 w.heap.size X := by rw [hw8]; exact ev_sets hRw X
            have hB8 : Below w.heap.size w w8 := by rw [hw8]; exact below_sets ((hB5.trans (hb6.mono hB5.size)).trans (hb7.mono (hB5.trans (hb6.mono hB5.size)).size)) (Nat.le_refl _) _ _ _ _ _ _ _ _
            refine wpAnyH_ready (rs := [10]) (by kernel_rfl) (by simp) ?_
            refine AllReadyH.cons (o := _) rfl (fun K hK => ?_) AllReadyH.nil
            rw [if_pos (by rfl)]
            have HW8 := Lib.hid hw8
            clear hw8
            go_wp2
            rw [← HW8.out]
            refine hK.out _ _ (sx hE8) (fun hHeld => ?_)
            clear hK K
            try simp only [Act.put, List.setIfInBounds_toArray, List.set_cons_zero, List.set_cons_succ]
            refine wpAnyH_ready (rs := [11]) (by kernel_rfl) (by simp) ?_
            refine AllReadyH.cons (o := _) rfl (fun K hK => ?_) AllReadyH.nil
            go_simp
            refine hK.out _ _ hHeld (fun hHeld => ?_)
            clear hK K
            try simp only [Act.put, List.setIfInBounds_toArray, List.set_cons_zero, List.set_cons_succ]
            refine wpAnyH_done (by kernel_rfl) ?_ _
            go_wp2
            refine bodyPost_ret (v := .tuple #[evA X, .bool ok]) (results_ct Tryd.results24 rfl rfl (load_ev hR8)) rfl ?_
            refine ⟨X, ?_, ?_, hB8⟩
            · rw [HEV.out]; by_cases hq : lineB X = line
              · rw [if_pos ⟨HFA.out, hq⟩, HOK.out, hq]; simp
              · rw [if_neg (fun h => hq h.2), HOK.out, beq_eq_false_iff_ne.2 hq]; rfl
            · intro y hy; rw [HEV.out] at hy; split at hy
              · exact Option.some.inj hy
              · cases hy
          · have hfb : (fault X == 0) = false := beq_eq_false_iff_ne.2 hfa
            refine wp_region_held_drew (S := (fun w' => EvAt w' (w.heap.size + 1 + 1) X ∧ w'.cell? ⟨w.heap.size + 1 + 1, 0, none⟩ = some (.int .i64 X.kind) ∧ w'.cell? ⟨w.heap.size + 1 + 1, 1, none⟩ = some (.int .i64 X.key) ∧ w'.cell? ⟨w.heap.size + 1 + 1, 2, none⟩ = some (.int .i64 X.slot) ∧ w'.cell? ⟨w.heap.size + 1 + 1, 3, none⟩ = some (.int .i64 X.gen) ∧ w'.cell? ⟨w.heap.size + 1 + 1, 4, none⟩ = some (.bool X.good) ∧ w'.cell? ⟨w.heap.size + 1 + 1, 5, none⟩ = some (.int .i64 X.req) ∧ w'.cell? ⟨w.heap.size + 1 + 1, 6, none⟩ = some (.int .i64 X.be) ∧ w'.cell? ⟨w.heap.size + 1 + 1, 7, none⟩ = some (.int .i64 X.wt))) (by kernel_rfl) (sx hE5) (fun hHeld => ?_)
            refine wpAnyH_take (i := 0) (oi := _) (v := evA X) rfl (by kernel_rfl) (by kernel_rfl) (by kernel_rfl) (fun _ _ _ h => h) (Or.inl ⟨by rfl, fun W hSw => by obtain ⟨s8, s0, s1, s2, s3, s4, s5, s6, s7⟩ := hSw; go_simp⟩) hHeld ?_
            simp only [Act.put, List.setIfInBounds_toArray, List.set_cons_zero, List.set_cons_succ]
            refine wpAnyH_take (i := 1) (oi := _) (v := evA X) rfl (by kernel_rfl) (by kernel_rfl) (by kernel_rfl) (fun _ _ _ h => h) (Or.inl ⟨by rfl, fun W hSw => by obtain ⟨s8, s0, s1, s2, s3, s4, s5, s6, s7⟩ := hSw; go_simp⟩) hHeld ?_
            simp only [Act.put, List.setIfInBounds_toArray, List.set_cons_zero, List.set_cons_succ]
            refine wpAnyH_ready (rs := [2]) (by kernel_rfl) (by simp) ?_
            refine AllReadyH.cons (o := _) rfl (fun K hK => ?_) AllReadyH.nil
            rw [if_pos (by rfl)]
            go_wp2_with fail
            refine (check_any X _).mono ?_
            rintro r w6 ⟨rfl, hb6'⟩
            have hb6 := below_of_drew hb6'
            try go_wp2
            refine hK.out _ _ (sx (hE5.below hb6 hE5.lt)) (fun hHeld => ?_)
            clear hK K
            try simp only [Act.put, List.setIfInBounds_toArray, List.set_cons_zero, List.set_cons_succ]
            refine wpAnyH_take (i := 3) (oi := _) (v := .bool false) rfl (by kernel_rfl) (by kernel_rfl) (by kernel_rfl) (fun _ _ _ h => h) (Or.inl ⟨by rfl, fun W hSw => by obtain ⟨s8, s0, s1, s2, s3, s4, s5, s6, s7⟩ := hSw; go_simp⟩) hHeld ?_
            simp only [Act.put, List.setIfInBounds_toArray, List.set_cons_zero, List.set_cons_succ]
            refine wpAnyH_take (i := 4) (oi := _) (v := .bool false) rfl (by kernel_rfl) (by kernel_rfl) (by kernel_rfl) (fun _ _ _ h => h) (Or.inl ⟨by rfl, fun W hSw => by obtain ⟨s8, s0, s1, s2, s3, s4, s5, s6, s7⟩ := hSw; go_simp⟩) hHeld ?_
            simp only [Act.put, List.setIfInBounds_toArray, List.set_cons_zero, List.set_cons_succ]
            refine wpAnyH_take (i := 5) (oi := _) (v := undef) rfl (by kernel_rfl) (by kernel_rfl) (by kernel_rfl) (fun _ _ _ h => h) (Or.inr ⟨by rfl, rfl⟩) hHeld ?_
            simp only [Act.put, List.setIfInBounds_toArray, List.set_cons_zero, List.set_cons_succ]
            refine wpAnyH_take (i := 6) (oi := _) (v := undef) rfl (by kernel_rfl) (by kernel_rfl) (by kernel_rfl) (fun _ _ _ h => h) (Or.inr ⟨by rfl, rfl⟩) hHeld ?_
            simp only [Act.put, List.setIfInBounds_toArray, List.set_cons_zero, List.set_cons_succ]
            refine wpAnyH_take (i := 7) (oi := _) (v := undef) rfl (by kernel_rfl) (by kernel_rfl) (by kernel_rfl) (fun _ _ _ h => h) (Or.inr ⟨by rfl, rfl⟩) hHeld ?_
            simp only [Act.put, List.setIfInBounds_toArray, List.set_cons_zero, List.set_cons_succ]
            refine wpAnyH_take (i := 8) (oi := _) (v := undef) rfl (by kernel_rfl) (by kernel_rfl) (by kernel_rfl) (fun _ _ _ h => h) (Or.inr ⟨by rfl, rfl⟩) hHeld ?_
            simp only [Act.put, List.setIfInBounds_toArray, List.set_cons_zero, List.set_cons_succ]
            refine wpAnyH_take (i := 9) (oi := _) (v := .bool false) rfl (by kernel_rfl) (by kernel_rfl) (by kernel_rfl) (fun _ _ _ h => h) (Or.inl ⟨by rfl, fun W hSw => by obtain ⟨s8, s0, s1, s2, s3, s4, s5, s6, s7⟩ := hSw; go_simp⟩) hHeld ?_
            simp only [Act.put, List.setIfInBounds_toArray, List.set_cons_zero, List.set_cons_succ]
            have hRw := (hR5.below hb6 hR5.lt)
            obtain ⟨z0, z1, z2, z3, z4, z5, z6, z7⟩ := hRw.all
            have y0 := hRw.frozen 0; have y1 := hRw.frozen 1; have y2 := hRw.frozen 2; have y3 := hRw.frozen 3; have y4 := hRw.frozen 4; have y5 := hRw.frozen 5; have y6 := hRw.frozen 6; have y7 := hRw.frozen 7
            obtain ⟨w8, hw8⟩ : ∃ w8, w8 = (World.setCell (World.setCell (World.setCell (World.setCell (World.setCell (World.setCell (World.setCell (World.setCell w6 ⟨w.heap.size, 0, none⟩ (.int .i64 X.kind)) ⟨w.heap.size, 1, none⟩ (.int .i64 X.key)) ⟨w.heap.size, 2, none⟩ (.int .i64 X.slot)) ⟨w.heap.size, 3, none⟩ (.int .i64 X.gen)) ⟨w.heap.size, 4, none⟩ (.bool X.good)) ⟨w.heap.size, 5, none⟩ (.int .i64 X.req)) ⟨w.heap.size, 6, none⟩ (.int .i64 X.be)) ⟨w.heap.size, 7, none⟩ (.int .i64 X.wt)) := ⟨_, rfl⟩
            have hE8 : EvAt w8 (w.heap.size + 1 + 1) X := by rw [hw8]; exact ev_other8 (hE5.below hb6 hE5.lt) (by simp; omega) _ _ _ _ _ _ _ _
            have hR8 : EvAt w8 w.heap.size X := by rw [hw8]; exact ev_sets hRw X
            have hB8 : Below w.heap.size w w8 := by rw [hw8]; exact below_sets (hB5.trans (hb6.mono hB5.size)) (Nat.le_refl _) _ _ _ _ _ _ _ _
            refine wpAnyH_ready (rs := [10]) (by kernel_rfl) (by simp) ?_
            refine AllReadyH.cons (o := _) rfl (fun K hK => ?_) AllReadyH.nil
            rw [if_pos (by rfl)]
            have HW8 := Lib.hid hw8
            clear hw8
            go_wp2
            rw [← HW8.out]
            refine hK.out _ _ (sx hE8) (fun hHeld => ?_)
            clear hK K
            try simp only [Act.put, List.setIfInBounds_toArray, List.set_cons_zero, List.set_cons_succ]
            refine wpAnyH_ready (rs := [11]) (by kernel_rfl) (by simp) ?_
            refine AllReadyH.cons (o := _) rfl (fun K hK => ?_) AllReadyH.nil
            go_simp
            refine hK.out _ _ hHeld (fun hHeld => ?_)
            clear hK K
            try simp only [Act.put, List.setIfInBounds_toArray, List.set_cons_zero, List.set_cons_succ]
            refine wpAnyH_done (by kernel_rfl) ?_ _
            go_wp2
            refine bodyPost_ret (v := .tuple #[evA X, .bool false]) (results_ct Tryd.results24 rfl rfl (load_ev hR8)) rfl ?_
            refine ⟨X, ?_, ?_, hB8⟩
            · rw [HEV.out, if_neg (fun h => hfa h.1)]; rfl
            · intro y hy; rw [HEV.out, if_neg (fun h => hfa h.1)] at hy; cases hy
        · subst h4
          have hpl' : (pl == [103, 111, 111, 100]) = false := beq_eq_false_iff_ne.2 hpl
          go_wp2
          obtain ⟨X, hX⟩ : ∃ X, X = ({ x with good := false } : Ev) := ⟨_, rfl⟩
          have HEV : Hid (evP line = if fault X = 0 ∧ lineB X = line then some X else none) := by unfold Hid evP; rw [HX.out.2.2.2, hX]; simp [hpl, outB]
          obtain ⟨w5, hw5⟩ : ∃ w5, w5 = w4.setCell ⟨w.heap.size + 1 + 1, 4, none⟩ (.bool false) := ⟨_, rfl⟩
          have hE5 : EvAt w5 (w.heap.size + 1 + 1) X := by rw [hw5, hX]; exact hEx.good false
          have hR5 : EvAt w5 w.heap.size Ev.zero := by rw [hw5]; exact hR4.other _ _ (by simp; omega)
          have hB5 : Below w.heap.size w w5 := by rw [hw5]; exact hB4.setCell (p := ⟨w.heap.size + 1 + 1, 4, none⟩) (by simp; omega) _
          rw [← hw5]
          have HX5 := Lib.hid (And.intro hX hw5)
          clear hX hw5 e0 e1 e2 e3 e4 e5 e6 e7 f4 hl4 z0 z1 z2 z3 z4 z5 z6 z7
          obtain ⟨e0, e1, e2, e3, e4, e5, e6, e7⟩ := hE5.all
          have hi34 : (Tryd.prog.info? 34).map (·.size) = some 8 := by kernel_rfl
          by_cases hfa : fault X = 0
          · have HFA := Lib.hid hfa
            clear hfa
            obtain ⟨ok, hok⟩ : ∃ ok, ok = (lineB X == line) := ⟨_, rfl⟩
            have HOK := Lib.hid hok
            have hok' := hok.symm
            clear hok
            refine wp_region_held_drew (S := (fun w' => EvAt w' (w.heap.size + 1 + 1) X ∧ w'.cell? ⟨w.heap.size + 1 + 1, 0, none⟩ = some (.int .i64 X.kind) ∧ w'.cell? ⟨w.heap.size + 1 + 1, 1, none⟩ = some (.int .i64 X.key) ∧ w'.cell? ⟨w.heap.size + 1 + 1, 2, none⟩ = some (.int .i64 X.slot) ∧ w'.cell? ⟨w.heap.size + 1 + 1, 3, none⟩ = some (.int .i64 X.gen) ∧ w'.cell? ⟨w.heap.size + 1 + 1, 4, none⟩ = some (.bool X.good) ∧ w'.cell? ⟨w.heap.size + 1 + 1, 5, none⟩ = some (.int .i64 X.req) ∧ w'.cell? ⟨w.heap.size + 1 + 1, 6, none⟩ = some (.int .i64 X.be) ∧ w'.cell? ⟨w.heap.size + 1 + 1, 7, none⟩ = some (.int .i64 X.wt))) (by kernel_rfl) (sx hE5) (fun hHeld => ?_)
            refine wpAnyH_take (i := 0) (oi := _) (v := evA X) rfl (by kernel_rfl) (by kernel_rfl) (by kernel_rfl) (fun _ _ _ h => h) (Or.inl ⟨by rfl, fun W hSw => by obtain ⟨s8, s0, s1, s2, s3, s4, s5, s6, s7⟩ := hSw; go_simp⟩) hHeld ?_
            simp only [Act.put, List.setIfInBounds_toArray, List.set_cons_zero, List.set_cons_succ]
            refine wpAnyH_take (i := 1) (oi := _) (v := evA X) rfl (by kernel_rfl) (by kernel_rfl) (by kernel_rfl) (fun _ _ _ h => h) (Or.inl ⟨by rfl, fun W hSw => by obtain ⟨s8, s0, s1, s2, s3, s4, s5, s6, s7⟩ := hSw; go_simp⟩) hHeld ?_
            simp only [Act.put, List.setIfInBounds_toArray, List.set_cons_zero, List.set_cons_succ]
            refine wpAnyH_ready (rs := [2]) (by kernel_rfl) (by simp) ?_
            refine AllReadyH.cons (o := _) rfl (fun K hK => ?_) AllReadyH.nil
            rw [if_pos (by rfl)]
            go_wp2_with fail
            refine (check_any X _).mono ?_
            rintro r w6 ⟨rfl, hb6'⟩
            have hb6 := below_of_drew hb6'
            rw [HFA.out]
            try go_wp2
            refine hK.out _ _ (sx (hE5.below hb6 hE5.lt)) (fun hHeld => ?_)
            clear hK K
            try simp only [Act.put, List.setIfInBounds_toArray, List.set_cons_zero, List.set_cons_succ]
            refine wpAnyH_take (i := 3) (oi := _) (v := .bool true) rfl (by kernel_rfl) (by kernel_rfl) (by kernel_rfl) (fun _ _ _ h => h) (Or.inl ⟨by rfl, fun W hSw => by obtain ⟨s8, s0, s1, s2, s3, s4, s5, s6, s7⟩ := hSw; go_simp⟩) hHeld ?_
            simp only [Act.put, List.setIfInBounds_toArray, List.set_cons_zero, List.set_cons_succ]
            refine wpAnyH_take (i := 4) (oi := _) (v := .bool true) rfl (by kernel_rfl) (by kernel_rfl) (by kernel_rfl) (fun _ _ _ h => h) (Or.inl ⟨by rfl, fun W hSw => by obtain ⟨s8, s0, s1, s2, s3, s4, s5, s6, s7⟩ := hSw; go_simp⟩) hHeld ?_
            simp only [Act.put, List.setIfInBounds_toArray, List.set_cons_zero, List.set_cons_succ]
            refine wpAnyH_take (i := 5) (oi := _) (v := evA X) rfl (by kernel_rfl) (by kernel_rfl) (by kernel_rfl) (fun _ _ _ h => h) (Or.inl ⟨by rfl, fun W hSw => by obtain ⟨s8, s0, s1, s2, s3, s4, s5, s6, s7⟩ := hSw; go_simp⟩) hHeld ?_
            simp only [Act.put, List.setIfInBounds_toArray, List.set_cons_zero, List.set_cons_succ]
            refine wpAnyH_take (i := 7) (oi := _) (v := .string ⟨line.toArray⟩) rfl (by kernel_rfl) (by kernel_rfl) (by kernel_rfl) (fun _ _ _ h => h) (Or.inl ⟨by rfl, fun W hSw => by obtain ⟨s8, s0, s1, s2, s3, s4, s5, s6, s7⟩ := hSw; go_simp⟩) hHeld ?_
            simp only [Act.put, List.setIfInBounds_toArray, List.set_cons_zero, List.set_cons_succ]
            refine wpAnyH_ready (rs := [6]) (by kernel_rfl) (by simp) ?_
            refine AllReadyH.cons (o := _) rfl (fun K hK => ?_) AllReadyH.nil
            rw [if_pos (by rfl)]
            go_wp2_with fail
            refine (line_any X _ (HG.out.1.below (hB5.trans (hb6.mono hB5.size)) h9) HFA.out).mono ?_
            rintro r w7 ⟨rfl, hb7⟩
            try go_wp2
            refine hK.out _ _ (sx (EvAt.below (hE5.below hb6 hE5.lt) hb7 (by have := hE5.lt; have := hb6.size; omega))) (fun hHeld => ?_)
            clear hK K
            try simp only [Act.put, List.setIfInBounds_toArray, List.set_cons_zero, List.set_cons_succ]
            refine wpAnyH_take (i := 8) (oi := _) (v := .bool ok) rfl (by kernel_rfl) (by kernel_rfl) (by kernel_rfl) (fun _ _ _ h => h) (Or.inl ⟨by rfl, fun W hSw => by obtain ⟨s8, s0, s1, s2, s3, s4, s5, s6, s7⟩ := hSw; go_simp⟩) hHeld ?_
            simp only [Act.put, List.setIfInBounds_toArray, List.set_cons_zero, List.set_cons_succ]
            refine wpAnyH_take (i := 9) (oi := _) (v := .bool ok) rfl (by kernel_rfl) (by kernel_rfl) (by kernel_rfl) (fun _ _ _ h => h) (Or.inl ⟨by rfl, fun W hSw => by obtain ⟨s8, s0, s1, s2, s3, s4, s5, s6, s7⟩ := hSw; go_simp⟩) hHeld ?_
            simp only [Act.put, List.setIfInBounds_toArray, List.set_cons_zero, List.set_cons_succ]
            have hRw := (EvAt.below (EvAt.below hR5 hb6 hR5.lt) hb7 (by have := hR5.lt; have := hb6.size; omega))
            obtain ⟨z0, z1, z2, z3, z4, z5, z6, z7⟩ := hRw.all
            have y0 := hRw.frozen 0; have y1 := hRw.frozen 1; have y2 := hRw.frozen 2; have y3 := hRw.frozen 3; have y4 := hRw.frozen 4; have y5 := hRw.frozen 5; have y6 := hRw.frozen 6; have y7 := hRw.frozen 7
            obtain ⟨w8, hw8⟩ : ∃ w8, w8 = (World.setCell (World.setCell (World.setCell (World.setCell (World.setCell (World.setCell (World.setCell (World.setCell w7 ⟨w.heap.size, 0, none⟩ (.int .i64 X.kind)) ⟨w.heap.size, 1, none⟩ (.int .i64 X.key)) ⟨w.heap.size, 2, none⟩ (.int .i64 X.slot)) ⟨w.heap.size, 3, none⟩ (.int .i64 X.gen)) ⟨w.heap.size, 4, none⟩ (.bool X.good)) ⟨w.heap.size, 5, none⟩ (.int .i64 X.req)) ⟨w.heap.size, 6, none⟩ (.int .i64 X.be)) ⟨w.heap.size, 7, none⟩ (.int .i64 X.wt)) := ⟨_, rfl⟩
            have hE8 : EvAt w8 (w.heap.size + 1 + 1) X := by rw [hw8]; exact ev_other8 (EvAt.below (hE5.below hb6 hE5.lt) hb7 (by have := hE5.lt; have := hb6.size; omega)) (by simp; omega) _ _ _ _ _ _ _ _
            have hR8 : EvAt w8 w.heap.size X := by rw [hw8]; exact ev_sets hRw X
            have hB8 : Below w.heap.size w w8 := by rw [hw8]; exact below_sets ((hB5.trans (hb6.mono hB5.size)).trans (hb7.mono (hB5.trans (hb6.mono hB5.size)).size)) (Nat.le_refl _) _ _ _ _ _ _ _ _
            refine wpAnyH_ready (rs := [10]) (by kernel_rfl) (by simp) ?_
            refine AllReadyH.cons (o := _) rfl (fun K hK => ?_) AllReadyH.nil
            rw [if_pos (by rfl)]
            have HW8 := Lib.hid hw8
            clear hw8
            go_wp2
            rw [← HW8.out]
            refine hK.out _ _ (sx hE8) (fun hHeld => ?_)
            clear hK K
            try simp only [Act.put, List.setIfInBounds_toArray, List.set_cons_zero, List.set_cons_succ]
            refine wpAnyH_ready (rs := [11]) (by kernel_rfl) (by simp) ?_
            refine AllReadyH.cons (o := _) rfl (fun K hK => ?_) AllReadyH.nil
            go_simp
            refine hK.out _ _ hHeld (fun hHeld => ?_)
            clear hK K
            try simp only [Act.put, List.setIfInBounds_toArray, List.set_cons_zero, List.set_cons_succ]
            refine wpAnyH_done (by kernel_rfl) ?_ _
            go_wp2
            refine bodyPost_ret (v := .tuple #[evA X, .bool ok]) (results_ct Tryd.results24 rfl rfl (load_ev hR8)) rfl ?_
            refine ⟨X, ?_, ?_, hB8⟩
            · rw [HEV.out]; by_cases hq : lineB X = line
              · rw [if_pos ⟨HFA.out, hq⟩, HOK.out, hq]; simp
              · rw [if_neg (fun h => hq h.2), HOK.out, beq_eq_false_iff_ne.2 hq]; rfl
            · intro y hy; rw [HEV.out] at hy; split at hy
              · exact Option.some.inj hy
              · cases hy
          · have hfb : (fault X == 0) = false := beq_eq_false_iff_ne.2 hfa
            refine wp_region_held_drew (S := (fun w' => EvAt w' (w.heap.size + 1 + 1) X ∧ w'.cell? ⟨w.heap.size + 1 + 1, 0, none⟩ = some (.int .i64 X.kind) ∧ w'.cell? ⟨w.heap.size + 1 + 1, 1, none⟩ = some (.int .i64 X.key) ∧ w'.cell? ⟨w.heap.size + 1 + 1, 2, none⟩ = some (.int .i64 X.slot) ∧ w'.cell? ⟨w.heap.size + 1 + 1, 3, none⟩ = some (.int .i64 X.gen) ∧ w'.cell? ⟨w.heap.size + 1 + 1, 4, none⟩ = some (.bool X.good) ∧ w'.cell? ⟨w.heap.size + 1 + 1, 5, none⟩ = some (.int .i64 X.req) ∧ w'.cell? ⟨w.heap.size + 1 + 1, 6, none⟩ = some (.int .i64 X.be) ∧ w'.cell? ⟨w.heap.size + 1 + 1, 7, none⟩ = some (.int .i64 X.wt))) (by kernel_rfl) (sx hE5) (fun hHeld => ?_)
            refine wpAnyH_take (i := 0) (oi := _) (v := evA X) rfl (by kernel_rfl) (by kernel_rfl) (by kernel_rfl) (fun _ _ _ h => h) (Or.inl ⟨by rfl, fun W hSw => by obtain ⟨s8, s0, s1, s2, s3, s4, s5, s6, s7⟩ := hSw; go_simp⟩) hHeld ?_
            simp only [Act.put, List.setIfInBounds_toArray, List.set_cons_zero, List.set_cons_succ]
            refine wpAnyH_take (i := 1) (oi := _) (v := evA X) rfl (by kernel_rfl) (by kernel_rfl) (by kernel_rfl) (fun _ _ _ h => h) (Or.inl ⟨by rfl, fun W hSw => by obtain ⟨s8, s0, s1, s2, s3, s4, s5, s6, s7⟩ := hSw; go_simp⟩) hHeld ?_
            simp only [Act.put, List.setIfInBounds_toArray, List.set_cons_zero, List.set_cons_succ]
            refine wpAnyH_ready (rs := [2]) (by kernel_rfl) (by simp) ?_
            refine AllReadyH.cons (o := _) rfl (fun K hK => ?_) AllReadyH.nil
            rw [if_pos (by rfl)]
            go_wp2_with fail
            refine (check_any X _).mono ?_
            rintro r w6 ⟨rfl, hb6'⟩
            have hb6 := below_of_drew hb6'
            try go_wp2
            refine hK.out _ _ (sx (hE5.below hb6 hE5.lt)) (fun hHeld => ?_)
            clear hK K
            try simp only [Act.put, List.setIfInBounds_toArray, List.set_cons_zero, List.set_cons_succ]
            refine wpAnyH_take (i := 3) (oi := _) (v := .bool false) rfl (by kernel_rfl) (by kernel_rfl) (by kernel_rfl) (fun _ _ _ h => h) (Or.inl ⟨by rfl, fun W hSw => by obtain ⟨s8, s0, s1, s2, s3, s4, s5, s6, s7⟩ := hSw; go_simp⟩) hHeld ?_
            simp only [Act.put, List.setIfInBounds_toArray, List.set_cons_zero, List.set_cons_succ]
            refine wpAnyH_take (i := 4) (oi := _) (v := .bool false) rfl (by kernel_rfl) (by kernel_rfl) (by kernel_rfl) (fun _ _ _ h => h) (Or.inl ⟨by rfl, fun W hSw => by obtain ⟨s8, s0, s1, s2, s3, s4, s5, s6, s7⟩ := hSw; go_simp⟩) hHeld ?_
            simp only [Act.put, List.setIfInBounds_toArray, List.set_cons_zero, List.set_cons_succ]
            refine wpAnyH_take (i := 5) (oi := _) (v := undef) rfl (by kernel_rfl) (by kernel_rfl) (by kernel_rfl) (fun _ _ _ h => h) (Or.inr ⟨by rfl, rfl⟩) hHeld ?_
            simp only [Act.put, List.setIfInBounds_toArray, List.set_cons_zero, List.set_cons_succ]
            refine wpAnyH_take (i := 6) (oi := _) (v := undef) rfl (by kernel_rfl) (by kernel_rfl) (by kernel_rfl) (fun _ _ _ h => h) (Or.inr ⟨by rfl, rfl⟩) hHeld ?_
            simp only [Act.put, List.setIfInBounds_toArray, List.set_cons_zero, List.set_cons_succ]
            refine wpAnyH_take (i := 7) (oi := _) (v := undef) rfl (by kernel_rfl) (by kernel_rfl) (by kernel_rfl) (fun _ _ _ h => h) (Or.inr ⟨by rfl, rfl⟩) hHeld ?_
            simp only [Act.put, List.setIfInBounds_toArray, List.set_cons_zero, List.set_cons_succ]
            refine wpAnyH_take (i := 8) (oi := _) (v := undef) rfl (by kernel_rfl) (by kernel_rfl) (by kernel_rfl) (fun _ _ _ h => h) (Or.inr ⟨by rfl, rfl⟩) hHeld ?_
            simp only [Act.put, List.setIfInBounds_toArray, List.set_cons_zero, List.set_cons_succ]
            refine wpAnyH_take (i := 9) (oi := _) (v := .bool false) rfl (by kernel_rfl) (by kernel_rfl) (by kernel_rfl) (fun _ _ _ h => h) (Or.inl ⟨by rfl, fun W hSw => by obtain ⟨s8, s0, s1, s2, s3, s4, s5, s6, s7⟩ := hSw; go_simp⟩) hHeld ?_
            simp only [Act.put, List.setIfInBounds_toArray, List.set_cons_zero, List.set_cons_succ]
            have hRw := (hR5.below hb6 hR5.lt)
            obtain ⟨z0, z1, z2, z3, z4, z5, z6, z7⟩ := hRw.all
            have y0 := hRw.frozen 0; have y1 := hRw.frozen 1; have y2 := hRw.frozen 2; have y3 := hRw.frozen 3; have y4 := hRw.frozen 4; have y5 := hRw.frozen 5; have y6 := hRw.frozen 6; have y7 := hRw.frozen 7
            obtain ⟨w8, hw8⟩ : ∃ w8, w8 = (World.setCell (World.setCell (World.setCell (World.setCell (World.setCell (World.setCell (World.setCell (World.setCell w6 ⟨w.heap.size, 0, none⟩ (.int .i64 X.kind)) ⟨w.heap.size, 1, none⟩ (.int .i64 X.key)) ⟨w.heap.size, 2, none⟩ (.int .i64 X.slot)) ⟨w.heap.size, 3, none⟩ (.int .i64 X.gen)) ⟨w.heap.size, 4, none⟩ (.bool X.good)) ⟨w.heap.size, 5, none⟩ (.int .i64 X.req)) ⟨w.heap.size, 6, none⟩ (.int .i64 X.be)) ⟨w.heap.size, 7, none⟩ (.int .i64 X.wt)) := ⟨_, rfl⟩
            have hE8 : EvAt w8 (w.heap.size + 1 + 1) X := by rw [hw8]; exact ev_other8 (hE5.below hb6 hE5.lt) (by simp; omega) _ _ _ _ _ _ _ _
            have hR8 : EvAt w8 w.heap.size X := by rw [hw8]; exact ev_sets hRw X
            have hB8 : Below w.heap.size w w8 := by rw [hw8]; exact below_sets (hB5.trans (hb6.mono hB5.size)) (Nat.le_refl _) _ _ _ _ _ _ _ _
            refine wpAnyH_ready (rs := [10]) (by kernel_rfl) (by simp) ?_
            refine AllReadyH.cons (o := _) rfl (fun K hK => ?_) AllReadyH.nil
            rw [if_pos (by rfl)]
            have HW8 := Lib.hid hw8
            clear hw8
            go_wp2
            rw [← HW8.out]
            refine hK.out _ _ (sx hE8) (fun hHeld => ?_)
            clear hK K
            try simp only [Act.put, List.setIfInBounds_toArray, List.set_cons_zero, List.set_cons_succ]
            refine wpAnyH_ready (rs := [11]) (by kernel_rfl) (by simp) ?_
            refine AllReadyH.cons (o := _) rfl (fun K hK => ?_) AllReadyH.nil
            go_simp
            refine hK.out _ _ hHeld (fun hHeld => ?_)
            clear hK K
            try simp only [Act.put, List.setIfInBounds_toArray, List.set_cons_zero, List.set_cons_succ]
            refine wpAnyH_done (by kernel_rfl) ?_ _
            go_wp2
            refine bodyPost_ret (v := .tuple #[evA X, .bool false]) (results_ct Tryd.results24 rfl rfl (load_ev hR8)) rfl ?_
            refine ⟨X, ?_, ?_, hB8⟩
            · rw [HEV.out, if_neg (fun h => hfa h.1)]; rfl
            · intro y hy; rw [HEV.out, if_neg (fun h => hfa h.1)] at hy; cases hy
      · have h4' : (k == 4) = false := beq_eq_false_iff_ne.2 h4
        go_wp2
        obtain ⟨X, hX⟩ : ∃ X, X = ({ x with good := false } : Ev) := ⟨_, rfl⟩
        have HEV : Hid (evP line = if fault X = 0 ∧ lineB X = line then some X else none) := by unfold Hid evP; rw [HX.out.2.2.2, hX]; simp [h4]
        obtain ⟨w5, hw5⟩ : ∃ w5, w5 = w4.setCell ⟨w.heap.size + 1 + 1, 4, none⟩ (.bool false) := ⟨_, rfl⟩
        have hE5 : EvAt w5 (w.heap.size + 1 + 1) X := by rw [hw5, hX]; exact hEx.good false
        have hR5 : EvAt w5 w.heap.size Ev.zero := by rw [hw5]; exact hR4.other _ _ (by simp; omega)
        have hB5 : Below w.heap.size w w5 := by rw [hw5]; exact hB4.setCell (p := ⟨w.heap.size + 1 + 1, 4, none⟩) (by simp; omega) _
        rw [← hw5]
        have HX5 := Lib.hid (And.intro hX hw5)
        clear hX hw5 e0 e1 e2 e3 e4 e5 e6 e7 f4 hl4 z0 z1 z2 z3 z4 z5 z6 z7
        obtain ⟨e0, e1, e2, e3, e4, e5, e6, e7⟩ := hE5.all
        have hi34 : (Tryd.prog.info? 34).map (·.size) = some 8 := by kernel_rfl
        by_cases hfa : fault X = 0
        · have HFA := Lib.hid hfa
          clear hfa
          obtain ⟨ok, hok⟩ : ∃ ok, ok = (lineB X == line) := ⟨_, rfl⟩
          have HOK := Lib.hid hok
          have hok' := hok.symm
          clear hok
          refine wp_region_held_drew (S := (fun w' => EvAt w' (w.heap.size + 1 + 1) X ∧ w'.cell? ⟨w.heap.size + 1 + 1, 0, none⟩ = some (.int .i64 X.kind) ∧ w'.cell? ⟨w.heap.size + 1 + 1, 1, none⟩ = some (.int .i64 X.key) ∧ w'.cell? ⟨w.heap.size + 1 + 1, 2, none⟩ = some (.int .i64 X.slot) ∧ w'.cell? ⟨w.heap.size + 1 + 1, 3, none⟩ = some (.int .i64 X.gen) ∧ w'.cell? ⟨w.heap.size + 1 + 1, 4, none⟩ = some (.bool X.good) ∧ w'.cell? ⟨w.heap.size + 1 + 1, 5, none⟩ = some (.int .i64 X.req) ∧ w'.cell? ⟨w.heap.size + 1 + 1, 6, none⟩ = some (.int .i64 X.be) ∧ w'.cell? ⟨w.heap.size + 1 + 1, 7, none⟩ = some (.int .i64 X.wt))) (by kernel_rfl) (sx hE5) (fun hHeld => ?_)
          refine wpAnyH_take (i := 0) (oi := _) (v := evA X) rfl (by kernel_rfl) (by kernel_rfl) (by kernel_rfl) (fun _ _ _ h => h) (Or.inl ⟨by rfl, fun W hSw => by obtain ⟨s8, s0, s1, s2, s3, s4, s5, s6, s7⟩ := hSw; go_simp⟩) hHeld ?_
          simp only [Act.put, List.setIfInBounds_toArray, List.set_cons_zero, List.set_cons_succ]
          refine wpAnyH_take (i := 1) (oi := _) (v := evA X) rfl (by kernel_rfl) (by kernel_rfl) (by kernel_rfl) (fun _ _ _ h => h) (Or.inl ⟨by rfl, fun W hSw => by obtain ⟨s8, s0, s1, s2, s3, s4, s5, s6, s7⟩ := hSw; go_simp⟩) hHeld ?_
          simp only [Act.put, List.setIfInBounds_toArray, List.set_cons_zero, List.set_cons_succ]
          refine wpAnyH_ready (rs := [2]) (by kernel_rfl) (by simp) ?_
          refine AllReadyH.cons (o := _) rfl (fun K hK => ?_) AllReadyH.nil
          rw [if_pos (by rfl)]
          go_wp2_with fail
          refine (check_any X _).mono ?_
          rintro r w6 ⟨rfl, hb6'⟩
          have hb6 := below_of_drew hb6'
          rw [HFA.out]
          try go_wp2
          refine hK.out _ _ (sx (hE5.below hb6 hE5.lt)) (fun hHeld => ?_)
          clear hK K
          try simp only [Act.put, List.setIfInBounds_toArray, List.set_cons_zero, List.set_cons_succ]
          refine wpAnyH_take (i := 3) (oi := _) (v := .bool true) rfl (by kernel_rfl) (by kernel_rfl) (by kernel_rfl) (fun _ _ _ h => h) (Or.inl ⟨by rfl, fun W hSw => by obtain ⟨s8, s0, s1, s2, s3, s4, s5, s6, s7⟩ := hSw; go_simp⟩) hHeld ?_
          simp only [Act.put, List.setIfInBounds_toArray, List.set_cons_zero, List.set_cons_succ]
          refine wpAnyH_take (i := 4) (oi := _) (v := .bool true) rfl (by kernel_rfl) (by kernel_rfl) (by kernel_rfl) (fun _ _ _ h => h) (Or.inl ⟨by rfl, fun W hSw => by obtain ⟨s8, s0, s1, s2, s3, s4, s5, s6, s7⟩ := hSw; go_simp⟩) hHeld ?_
          simp only [Act.put, List.setIfInBounds_toArray, List.set_cons_zero, List.set_cons_succ]
          refine wpAnyH_take (i := 5) (oi := _) (v := evA X) rfl (by kernel_rfl) (by kernel_rfl) (by kernel_rfl) (fun _ _ _ h => h) (Or.inl ⟨by rfl, fun W hSw => by obtain ⟨s8, s0, s1, s2, s3, s4, s5, s6, s7⟩ := hSw; go_simp⟩) hHeld ?_
          simp only [Act.put, List.setIfInBounds_toArray, List.set_cons_zero, List.set_cons_succ]
          refine wpAnyH_take (i := 7) (oi := _) (v := .string ⟨line.toArray⟩) rfl (by kernel_rfl) (by kernel_rfl) (by kernel_rfl) (fun _ _ _ h => h) (Or.inl ⟨by rfl, fun W hSw => by obtain ⟨s8, s0, s1, s2, s3, s4, s5, s6, s7⟩ := hSw; go_simp⟩) hHeld ?_
          simp only [Act.put, List.setIfInBounds_toArray, List.set_cons_zero, List.set_cons_succ]
          refine wpAnyH_ready (rs := [6]) (by kernel_rfl) (by simp) ?_
          refine AllReadyH.cons (o := _) rfl (fun K hK => ?_) AllReadyH.nil
          rw [if_pos (by rfl)]
          go_wp2_with fail
          refine (line_any X _ (HG.out.1.below (hB5.trans (hb6.mono hB5.size)) h9) HFA.out).mono ?_
          rintro r w7 ⟨rfl, hb7⟩
          try go_wp2
          refine hK.out _ _ (sx (EvAt.below (hE5.below hb6 hE5.lt) hb7 (by have := hE5.lt; have := hb6.size; omega))) (fun hHeld => ?_)
          clear hK K
          try simp only [Act.put, List.setIfInBounds_toArray, List.set_cons_zero, List.set_cons_succ]
          refine wpAnyH_take (i := 8) (oi := _) (v := .bool ok) rfl (by kernel_rfl) (by kernel_rfl) (by kernel_rfl) (fun _ _ _ h => h) (Or.inl ⟨by rfl, fun W hSw => by obtain ⟨s8, s0, s1, s2, s3, s4, s5, s6, s7⟩ := hSw; go_simp⟩) hHeld ?_
          simp only [Act.put, List.setIfInBounds_toArray, List.set_cons_zero, List.set_cons_succ]
          refine wpAnyH_take (i := 9) (oi := _) (v := .bool ok) rfl (by kernel_rfl) (by kernel_rfl) (by kernel_rfl) (fun _ _ _ h => h) (Or.inl ⟨by rfl, fun W hSw => by obtain ⟨s8, s0, s1, s2, s3, s4, s5, s6, s7⟩ := hSw; go_simp⟩) hHeld ?_
          simp only [Act.put, List.setIfInBounds_toArray, List.set_cons_zero, List.set_cons_succ]
          have hRw := (EvAt.below (EvAt.below hR5 hb6 hR5.lt) hb7 (by have := hR5.lt; have := hb6.size; omega))
          obtain ⟨z0, z1, z2, z3, z4, z5, z6, z7⟩ := hRw.all
          have y0 := hRw.frozen 0; have y1 := hRw.frozen 1; have y2 := hRw.frozen 2; have y3 := hRw.frozen 3; have y4 := hRw.frozen 4; have y5 := hRw.frozen 5; have y6 := hRw.frozen 6; have y7 := hRw.frozen 7
          obtain ⟨w8, hw8⟩ : ∃ w8, w8 = (World.setCell (World.setCell (World.setCell (World.setCell (World.setCell (World.setCell (World.setCell (World.setCell w7 ⟨w.heap.size, 0, none⟩ (.int .i64 X.kind)) ⟨w.heap.size, 1, none⟩ (.int .i64 X.key)) ⟨w.heap.size, 2, none⟩ (.int .i64 X.slot)) ⟨w.heap.size, 3, none⟩ (.int .i64 X.gen)) ⟨w.heap.size, 4, none⟩ (.bool X.good)) ⟨w.heap.size, 5, none⟩ (.int .i64 X.req)) ⟨w.heap.size, 6, none⟩ (.int .i64 X.be)) ⟨w.heap.size, 7, none⟩ (.int .i64 X.wt)) := ⟨_, rfl⟩
          have hE8 : EvAt w8 (w.heap.size + 1 + 1) X := by rw [hw8]; exact ev_other8 (EvAt.below (hE5.below hb6 hE5.lt) hb7 (by have := hE5.lt; have := hb6.size; omega)) (by simp; omega) _ _ _ _ _ _ _ _
          have hR8 : EvAt w8 w.heap.size X := by rw [hw8]; exact ev_sets hRw X
          have hB8 : Below w.heap.size w w8 := by rw [hw8]; exact below_sets ((hB5.trans (hb6.mono hB5.size)).trans (hb7.mono (hB5.trans (hb6.mono hB5.size)).size)) (Nat.le_refl _) _ _ _ _ _ _ _ _
          refine wpAnyH_ready (rs := [10]) (by kernel_rfl) (by simp) ?_
          refine AllReadyH.cons (o := _) rfl (fun K hK => ?_) AllReadyH.nil
          rw [if_pos (by rfl)]
          have HW8 := Lib.hid hw8
          clear hw8
          go_wp2
          rw [← HW8.out]
          refine hK.out _ _ (sx hE8) (fun hHeld => ?_)
          clear hK K
          try simp only [Act.put, List.setIfInBounds_toArray, List.set_cons_zero, List.set_cons_succ]
          refine wpAnyH_ready (rs := [11]) (by kernel_rfl) (by simp) ?_
          refine AllReadyH.cons (o := _) rfl (fun K hK => ?_) AllReadyH.nil
          go_simp
          refine hK.out _ _ hHeld (fun hHeld => ?_)
          clear hK K
          try simp only [Act.put, List.setIfInBounds_toArray, List.set_cons_zero, List.set_cons_succ]
          refine wpAnyH_done (by kernel_rfl) ?_ _
          go_wp2
          refine bodyPost_ret (v := .tuple #[evA X, .bool ok]) (results_ct Tryd.results24 rfl rfl (load_ev hR8)) rfl ?_
          refine ⟨X, ?_, ?_, hB8⟩
          · rw [HEV.out]; by_cases hq : lineB X = line
            · rw [if_pos ⟨HFA.out, hq⟩, HOK.out, hq]; simp
            · rw [if_neg (fun h => hq h.2), HOK.out, beq_eq_false_iff_ne.2 hq]; rfl
          · intro y hy; rw [HEV.out] at hy; split at hy
            · exact Option.some.inj hy
            · cases hy
        · have hfb : (fault X == 0) = false := beq_eq_false_iff_ne.2 hfa
          refine wp_region_held_drew (S := (fun w' => EvAt w' (w.heap.size + 1 + 1) X ∧ w'.cell? ⟨w.heap.size + 1 + 1, 0, none⟩ = some (.int .i64 X.kind) ∧ w'.cell? ⟨w.heap.size + 1 + 1, 1, none⟩ = some (.int .i64 X.key) ∧ w'.cell? ⟨w.heap.size + 1 + 1, 2, none⟩ = some (.int .i64 X.slot) ∧ w'.cell? ⟨w.heap.size + 1 + 1, 3, none⟩ = some (.int .i64 X.gen) ∧ w'.cell? ⟨w.heap.size + 1 + 1, 4, none⟩ = some (.bool X.good) ∧ w'.cell? ⟨w.heap.size + 1 + 1, 5, none⟩ = some (.int .i64 X.req) ∧ w'.cell? ⟨w.heap.size + 1 + 1, 6, none⟩ = some (.int .i64 X.be) ∧ w'.cell? ⟨w.heap.size + 1 + 1, 7, none⟩ = some (.int .i64 X.wt))) (by kernel_rfl) (sx hE5) (fun hHeld => ?_)
          refine wpAnyH_take (i := 0) (oi := _) (v := evA X) rfl (by kernel_rfl) (by kernel_rfl) (by kernel_rfl) (fun _ _ _ h => h) (Or.inl ⟨by rfl, fun W hSw => by obtain ⟨s8, s0, s1, s2, s3, s4, s5, s6, s7⟩ := hSw; go_simp⟩) hHeld ?_
          simp only [Act.put, List.setIfInBounds_toArray, List.set_cons_zero, List.set_cons_succ]
          refine wpAnyH_take (i := 1) (oi := _) (v := evA X) rfl (by kernel_rfl) (by kernel_rfl) (by kernel_rfl) (fun _ _ _ h => h) (Or.inl ⟨by rfl, fun W hSw => by obtain ⟨s8, s0, s1, s2, s3, s4, s5, s6, s7⟩ := hSw; go_simp⟩) hHeld ?_
          simp only [Act.put, List.setIfInBounds_toArray, List.set_cons_zero, List.set_cons_succ]
          refine wpAnyH_ready (rs := [2]) (by kernel_rfl) (by simp) ?_
          refine AllReadyH.cons (o := _) rfl (fun K hK => ?_) AllReadyH.nil
          rw [if_pos (by rfl)]
          go_wp2_with fail
          refine (check_any X _).mono ?_
          rintro r w6 ⟨rfl, hb6'⟩
          have hb6 := below_of_drew hb6'
          try go_wp2
          refine hK.out _ _ (sx (hE5.below hb6 hE5.lt)) (fun hHeld => ?_)
          clear hK K
          try simp only [Act.put, List.setIfInBounds_toArray, List.set_cons_zero, List.set_cons_succ]
          refine wpAnyH_take (i := 3) (oi := _) (v := .bool false) rfl (by kernel_rfl) (by kernel_rfl) (by kernel_rfl) (fun _ _ _ h => h) (Or.inl ⟨by rfl, fun W hSw => by obtain ⟨s8, s0, s1, s2, s3, s4, s5, s6, s7⟩ := hSw; go_simp⟩) hHeld ?_
          simp only [Act.put, List.setIfInBounds_toArray, List.set_cons_zero, List.set_cons_succ]
          refine wpAnyH_take (i := 4) (oi := _) (v := .bool false) rfl (by kernel_rfl) (by kernel_rfl) (by kernel_rfl) (fun _ _ _ h => h) (Or.inl ⟨by rfl, fun W hSw => by obtain ⟨s8, s0, s1, s2, s3, s4, s5, s6, s7⟩ := hSw; go_simp⟩) hHeld ?_
          simp only [Act.put, List.setIfInBounds_toArray, List.set_cons_zero, List.set_cons_succ]
          refine wpAnyH_take (i := 5) (oi := _) (v := undef) rfl (by kernel_rfl) (by kernel_rfl) (by kernel_rfl) (fun _ _ _ h => h) (Or.inr ⟨by rfl, rfl⟩) hHeld ?_
          simp only [Act.put, List.setIfInBounds_toArray, List.set_cons_zero, List.set_cons_succ]
          refine wpAnyH_take (i := 6) (oi := _) (v := undef) rfl (by kernel_rfl) (by kernel_rfl) (by kernel_rfl) (fun _ _ _ h => h) (Or.inr ⟨by rfl, rfl⟩) hHeld ?_
          simp only [Act.put, List.setIfInBounds_toArray, List.set_cons_zero, List.set_cons_succ]
          refine wpAnyH_take (i := 7) (oi := _) (v := undef) rfl (by kernel_rfl) (by kernel_rfl) (by kernel_rfl) (fun _ _ _ h => h) (Or.inr ⟨by rfl, rfl⟩) hHeld ?_
          simp only [Act.put, List.setIfInBounds_toArray, List.set_cons_zero, List.set_cons_succ]
          refine wpAnyH_take (i := 8) (oi := _) (v := undef) rfl (by kernel_rfl) (by kernel_rfl) (by kernel_rfl) (fun _ _ _ h => h) (Or.inr ⟨by rfl, rfl⟩) hHeld ?_
          simp only [Act.put, List.setIfInBounds_toArray, List.set_cons_zero, List.set_cons_succ]
          refine wpAnyH_take (i := 9) (oi := _) (v := .bool false) rfl (by kernel_rfl) (by kernel_rfl) (by kernel_rfl) (fun _ _ _ h => h) (Or.inl ⟨by rfl, fun W hSw => by obtain ⟨s8, s0, s1, s2, s3, s4, s5, s6, s7⟩ := hSw; go_simp⟩) hHeld ?_
          simp only [Act.put, List.setIfInBounds_toArray, List.set_cons_zero, List.set_cons_succ]
          have hRw := (hR5.below hb6 hR5.lt)
          obtain ⟨z0, z1, z2, z3, z4, z5, z6, z7⟩ := hRw.all
          have y0 := hRw.frozen 0; have y1 := hRw.frozen 1; have y2 := hRw.frozen 2; have y3 := hRw.frozen 3; have y4 := hRw.frozen 4; have y5 := hRw.frozen 5; have y6 := hRw.frozen 6; have y7 := hRw.frozen 7
          obtain ⟨w8, hw8⟩ : ∃ w8, w8 = (World.setCell (World.setCell (World.setCell (World.setCell (World.setCell (World.setCell (World.setCell (World.setCell w6 ⟨w.heap.size, 0, none⟩ (.int .i64 X.kind)) ⟨w.heap.size, 1, none⟩ (.int .i64 X.key)) ⟨w.heap.size, 2, none⟩ (.int .i64 X.slot)) ⟨w.heap.size, 3, none⟩ (.int .i64 X.gen)) ⟨w.heap.size, 4, none⟩ (.bool X.good)) ⟨w.heap.size, 5, none⟩ (.int .i64 X.req)) ⟨w.heap.size, 6, none⟩ (.int .i64 X.be)) ⟨w.heap.size, 7, none⟩ (.int .i64 X.wt)) := ⟨_, rfl⟩
          have hE8 : EvAt w8 (w.heap.size + 1 + 1) X := by rw [hw8]; exact ev_other8 (hE5.below hb6 hE5.lt) (by simp; omega) _ _ _ _ _ _ _ _
          have hR8 : EvAt w8 w.heap.size X := by rw [hw8]; exact ev_sets hRw X
          have hB8 : Below w.heap.size w w8 := by rw [hw8]; exact below_sets (hB5.trans (hb6.mono hB5.size)) (Nat.le_refl _) _ _ _ _ _ _ _ _
          refine wpAnyH_ready (rs := [10]) (by kernel_rfl) (by simp) ?_
          refine AllReadyH.cons (o := _) rfl (fun K hK => ?_) AllReadyH.nil
          rw [if_pos (by rfl)]
          have HW8 := Lib.hid hw8
          clear hw8
          go_wp2
          rw [← HW8.out]
          refine hK.out _ _ (sx hE8) (fun hHeld => ?_)
          clear hK K
          try simp only [Act.put, List.setIfInBounds_toArray, List.set_cons_zero, List.set_cons_succ]
          refine wpAnyH_ready (rs := [11]) (by kernel_rfl) (by simp) ?_
          refine AllReadyH.cons (o := _) rfl (fun K hK => ?_) AllReadyH.nil
          go_simp
          refine hK.out _ _ hHeld (fun hHeld => ?_)
          clear hK K
          try simp only [Act.put, List.setIfInBounds_toArray, List.set_cons_zero, List.set_cons_succ]
          refine wpAnyH_done (by kernel_rfl) ?_ _
          go_wp2
          refine bodyPost_ret (v := .tuple #[evA X, .bool false]) (results_ct Tryd.results24 rfl rfl (load_ev hR8)) rfl ?_
          refine ⟨X, ?_, ?_, hB8⟩
          · rw [HEV.out, if_neg (fun h => hfa h.1)]; rfl
          · intro y hy; rw [HEV.out, if_neg (fun h => hfa h.1)] at hy; cases hy
end Go.Proofs.YtkefdbnnfcfmjaaDoor.Walks
