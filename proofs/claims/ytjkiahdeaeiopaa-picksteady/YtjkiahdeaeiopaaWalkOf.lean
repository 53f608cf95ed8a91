/-
  usherkeep.without, walkOf, loadOf. Condition: what is read can be read.
-/
import Derived.Test.YtjkiahdeaeiopaaPickP
import Derived.WalkKit
import Derived.ProofKit
import Derived.Handy
import Derived.LoopTactic
import Derived.Below
import Derived.Laws.BitsAllLaws
import Derived.RegionTactic
import Derived.Deep.RegionHeld3
import Derived.Deep.DrawnRows
import Derived.Deep.AppendLies
import Derived.Laws.OwnMore
import Derived.Deep.Onto
import Derived.Deep.QuietTactic
import Derived.BigQuiet
namespace Go.Proofs.Ytjkiahdeaeiopaa.Walks
open Go.RowKit
set_option linter.unusedVariables false
set_option linter.unusedSimpArgs false
attribute [local go_sem ↓] Go.wp_at_zero Go.wp_at_succ

/-- Without a number. -/
def wo (l : List Int) (n : Int) : List Int := l.filter fun x => decide (x ≠ n)

theorem wo_snoc (l : List Int) (x n : Int) : wo (l ++ [x]) n = wo l n ++ if x = n then [] else [x] := by
  by_cases h : x = n <;> simp [wo, h]

theorem wo_len (l : List Int) (n : Int) : (wo l n).length ≤ l.length := List.length_filter_le _ _

theorem mem_wo {l : List Int} {n x : Int} : x ∈ wo l n ↔ x ∈ l ∧ x ≠ n := by simp [wo]

theorem wo_all {l : List Int} {n : Int} (h : n ∉ l) : wo l n = l := List.filter_eq_self.2 fun x hx => by simpa using fun e => h (by rw [← e]; exact hx)

theorem wo_nodup {l : List Int} {n : Int} (h : l.Nodup) : (wo l n).Nodup := h.filter _

theorem wo_len_mem : ∀ (l : List Int) (n : Int), l.Nodup → n ∈ l → (wo l n).length + 1 = l.length
  | [], _, _, h => by cases h
  | x :: l, n, hd, h => by
    have hd2 := List.nodup_cons.1 hd
    by_cases e : x = n
    · subst e
      have : wo (x :: l) x = l := by
        unfold wo
        rw [List.filter_cons_of_neg (by simp)]
        exact List.filter_eq_self.2 fun y hy => by simpa using fun e => hd2.1 (by rw [← e]; exact hy)
      rw [this, List.length_cons]
    · have h2 : n ∈ l := (List.mem_cons.1 h).resolve_left (fun h => e h.symm)
      have := wo_len_mem l n hd2.2 h2
      have e2 : wo (x :: l) n = x :: wo l n := by
        unfold wo
        rw [List.filter_cons_of_pos (by simpa using e)]
      rw [e2, List.length_cons, List.length_cons]
      omega

theorem wo_ge (l : List Int) (n : Int) (hd : l.Nodup) : l.length ≤ (wo l n).length + 1 := by
  by_cases h : n ∈ l
  · rw [wo_len_mem l n hd h]; exact Nat.le_refl _
  · rw [wo_all h]; omega

/-- Numbers that are all different, and below a bound, are no more than the bound. -/
theorem pigeons : ∀ (n : Nat) (l : List Int), l.Nodup → (∀ x ∈ l, 0 ≤ x ∧ x < (n : Int)) → l.length ≤ n
  | 0, l, _, h => by
    cases l with
    | nil => simp
    | cons x l => have := h x (by simp); omega
  | n + 1, l, hd, h => by
    have h1 := pigeons n (wo l n) (wo_nodup hd) fun x hx => by
      obtain ⟨h2, h3⟩ := mem_wo.1 hx
      have := h x h2
      omega
    have h2 := wo_ge l n hd
    omega

set_option maxHeartbeats 4000000 in
set_option maxRecDepth 100000 in
theorem without_any (v : Value) (l : List Int) (n : Int) (w : World) (hv : IntsAt w v l) (hl : l.length ≤ 1048576) :
    Calls Try.prog 20 #[v, .int .i64 n] w fun r w' => ∃ p c, r = .returned (.slice p (wo l n).length c) ∧ w'.ownsRow w.heap.size 3 1 (.slice p (wo l n).length c) (wo l n).length (icells (wo l n)) ∧ Below w.heap.size w w' := by
  obtain ⟨a, ca, rfl, hca, hma, pa⟩ := hv.parts
  have HP : Hid _ := pa
  clear pa hv
  obtain ⟨i0, hi, hz0, hz1, hz2⟩ := info_parts infoInt
  go_enter Try.func20, Try.ntmps20
  go_wp2
  go_loopw [5, 6] (fun x t wr => ∃ k : Nat, t = .int .i64 k ∧ k ≤ l.length ∧ wr.ownsRow w.heap.size 3 1 x (wo (l.take k) n).length (icells (wo (l.take k) n)) ∧ Below w.heap.size w wr) (fun _ t _ => l.length - (intOf t).toNat)
  case atStart => exact ⟨0, rfl, Nat.zero_le _, World.ownsRow_nil _ _ _ _, Below.refl _ _⟩
  case round =>
    obtain ⟨k, rfl, hk, hrow, hb⟩ := hrel
    by_cases hlt : k < l.length
    · obtain ⟨b1, o1, rfl, hb1, c1⟩ := HP.out k hlt
      have e1 := (hb.cell (p := ⟨b1, o1 + k, none⟩) hb1).trans c1
      have hs := wo_snoc (l.take k) l[k] n
      rw [← List.take_succ_eq_append_getElem hlt] at hs
      have hlen := wo_len (l.take k) n
      rw [List.length_take] at hlen
      generalize l[k] = x at *
      obtain ⟨out, ho⟩ : ∃ out, out = wo (l.take k) n := ⟨_, rfl⟩
      rw [← ho] at hs hrow hlen
      have hkI : (k : Int) < (l.length : Int) := by omega
      have HK : Hid (_ ∧ _ ∧ _) := ⟨hrow, hb, hs⟩
      have hsz := hb.size
      clear hrow hb hs c1 ho
      by_cases hx : x = n
      · subst hx
        go_wp2
        go_roundw
        case rel => exact ⟨k + 1, by simp, hlt, by rw [HK.out.2.2, if_pos rfl, List.append_nil]; exact HK.out.1, HK.out.2.1⟩
        case measure => simp [intOf]; omega
      · have hxI : (x != n) = true := by simpa using hx
        have HX : Hid _ := hx
        clear hx
        go_wp2_with (first | (at_builtin; refine wpList_append_lies _ rfl _ _ 22 rfl w.heap.size 3 i0 _ 1 8 Try.underlying22 hi hz0 hz1 hz2 rfl (by decide) u5 _ _ rfl (HK.out.1.alloc _) _ 1 1 [.int .i64 x] rfl rfl (news_at _ _ _) (by intro u hu; rw [List.mem_singleton.1 hu]; rfl) (by decide) (by unfold maxLen; omega) (by omega) (by simp; omega) _ rfl ?_; intro g' cap w2 hown2 hg2 hlies hlt2))
        go_wp2
        go_roundw
        case rel =>
          refine ⟨k + 1, by simp, hlt, ?_, ?_⟩
          · rw [HK.out.2.2, if_neg HX.out, icells_append, List.length_append]
            exact hown2
          · have h1 := HK.out.2.1.alloc HK.out.2.1.size (.cells #[.int .i64 x] 3)
            exact h1.grown hg2 h1.size (fun j e => (HK.out.1.lt j e).1)
        case measure => simp [intOf]; omega
    · obtain rfl : k = l.length := by omega
      rw [List.take_length] at hrow
      obtain ⟨p, c, rfl⟩ := own_form hrow
      have HK : Hid (_ ∧ _) := ⟨hrow, hb⟩
      clear hrow hb
      go_wp2
      go_ret
      exact ⟨p, c, rfl, HK.out.1, HK.out.2⟩

/-- A walk: backends, each once at most. -/
abbrev WalkOk (ws : List Int) : Prop := ws.Nodup ∧ ∀ x ∈ ws, 0 ≤ x ∧ x < 12

theorem walk_len {ws : List Int} (h : WalkOk ws) : ws.length ≤ 12 := pigeons 12 ws h.1 h.2

theorem own_below {w w' : World} {base : Nat} {e : TypeId} {k : Nat} {v : Value} {n : Nat} {xs : List Value} (h : w.ownsRow base e k v n xs) (hb : Below w.heap.size w w') : w'.ownsRow base e k v n xs :=
  own_block h fun g hg => hb.block g (h.lt g hg).2

set_option maxHeartbeats 4000000 in
set_option maxRecDepth 100000 in
theorem walkOf_any (v : Value) (raw : List Int) (w : World) (hv : IntsAt w v raw) (hwf : ∀ n ∈ raw, (Lit.int .i64 n).wf = true) :
    Calls Try.prog 17 #[v] w fun r w' => ∃ ws p c, r = .returned (.slice p ws.length c) ∧ WalkOk ws ∧ w'.ownsRow w.heap.size 3 1 (.slice p ws.length c) ws.length (icells ws) ∧ Below w.heap.size w w' := by
  obtain ⟨a, ca, rfl, hca, hma, pa⟩ := hv.parts
  unfold maxLen at hma
  have HP : Hid (_ ∧ _) := ⟨pa, hwf⟩
  clear pa hv hwf
  obtain ⟨i0, hi, hz0, hz1, hz2⟩ := info_parts infoInt
  go_enter Try.func17, Try.ntmps17
  go_wp2
  go_loopw [3, 4] (fun x t wr => ∃ (k : Nat) (ws : List Int) (p : Option Addr) (c : Nat), t = .int .i64 k ∧ x = .slice p ws.length c ∧ k ≤ raw.length ∧ WalkOk ws ∧ wr.ownsRow w.heap.size 3 1 (.slice p ws.length c) ws.length (icells ws) ∧ Below w.heap.size w wr) (fun _ t _ => raw.length - (intOf t).toNat)
  case atStart => exact ⟨0, [], none, 0, rfl, rfl, Nat.zero_le _, ⟨List.nodup_nil, by simp⟩, World.ownsRow_nil _ _ _ _, Below.refl _ _⟩
  case round =>
    obtain ⟨k, ws, p, c, rfl, rfl, hk, hws, hrow, hb⟩ := hrel
    have hw12 := walk_len hws
    by_cases hlt : k < raw.length ∧ ws.length < 12
    · obtain ⟨hlt, hl12⟩ := hlt
      obtain ⟨b1, o1, rfl, hb1, c1⟩ := HP.out.1 k hlt
      have e1 := (hb.cell (p := ⟨b1, o1 + k, none⟩) hb1).trans c1
      obtain ⟨y, hy, hpk⟩ := picked_some raw[k] 12 (HP.out.2 _ (List.getElem_mem hlt)) (by omega) (by omega)
      generalize raw[k] = x at *
      have hkI : (k : Int) < (raw.length : Int) := by omega
      have hlI : (ws.length : Int) < 12 := by omega
      have HK : Hid (_ ∧ _ ∧ _ ∧ _) := ⟨hrow, hb, hws, hpk⟩
      have hsz := hb.size
      clear hrow hb hws hpk c1 hb1
      go_wp2_with fail
      refine (HK.out.2.2.2 _).mono ?_
      rintro r w1 ⟨rfl, rfl⟩
      go_wp2_with fail
      refine (without_any _ ws y _ (own_ints HK.out.1) (by omega)).mono ?_
      rintro r w2 ⟨p2, c2, rfl, ho2, hb2⟩
      have HL : Hid (_ ∧ _) := ⟨own_below HK.out.1 hb2, HK.out.2.1.trans (hb2.mono HK.out.2.1.size)⟩
      have hsz2 := HL.out.2.size
      clear ho2 hb2
      by_cases hm : (y : Int) ∈ ws
      · have hn := wo_len_mem ws y HK.out.2.2.1.1 hm
        obtain ⟨q, hq⟩ : ∃ q, q = (wo ws y).length := ⟨_, rfl⟩
        rw [← hq] at hn ⊢
        have hne : ((q : Int) == (ws.length : Int)) = false := by rw [beq_eq_false_iff_ne]; omega
        clear hq hn
        go_wp2
        go_roundw
        case rel => exact ⟨k + 1, ws, p, c, by simp, rfl, hlt, HK.out.2.2.1, HL.out.1, HL.out.2⟩
        case measure => simp [intOf]; omega
      · rw [wo_all hm]
        have HN : Hid (WalkOk (ws ++ [(y : Int)])) := by
          refine ⟨?_, ?_⟩
          · rw [List.nodup_append]
            exact ⟨HK.out.2.2.1.1, by simp, fun a ha b hb e => hm (by rw [List.mem_singleton] at hb; rw [← hb, ← e]; exact ha)⟩
          · intro x hx
            rcases List.mem_append.1 hx with h | h
            · exact HK.out.2.2.1.2 x h
            · rw [List.mem_singleton.1 h]; omega
        clear hm
        go_wp2_with (first | (at_builtin; refine wpList_append_lies _ rfl _ _ 22 rfl w.heap.size 3 i0 _ 1 8 Try.underlying22 hi hz0 hz1 hz2 rfl (by decide) (.slice p ws.length c) _ _ rfl (HL.out.1.alloc _) _ 1 1 [.int .i64 (y : Int)] rfl rfl (news_at _ _ _) (by intro u hu; rw [List.mem_singleton.1 hu]; rfl) (by decide) (by unfold maxLen; omega) (by omega) (by simp; omega) _ rfl ?_; intro g' cap w3 hown3 hg3 hlies hlt3))
        go_wp2
        go_roundw
        case rel =>
          have h1 := HL.out.2.alloc HL.out.2.size (.cells #[.int .i64 (y : Int)] 3)
          have hB := h1.grown hg3 h1.size (fun j e => (HL.out.1.lt j e).1)
          have e : ws.length + 1 = (ws ++ [(y : Int)]).length := by simp
          refine ⟨k + 1, ws ++ [(y : Int)], some ⟨g', 0, none⟩, cap, by simp, by rw [← e], hlt, HN.out, ?_, hB⟩
          rw [← e, icells_append]
          exact hown3
        case measure => simp [intOf]; omega
    · have HK : Hid (_ ∧ _ ∧ _) := ⟨hrow, hb, hws⟩
      clear hrow hb hws
      rcases (by omega : ¬ (k : Int) < (raw.length : Int) ∨ (k : Int) < (raw.length : Int) ∧ ¬ (ws.length : Int) < 12) with h1 | ⟨h1, h2⟩
      · clear hlt
        go_wp2
        go_ret
        exact ⟨ws, p, c, rfl, HK.out.2.2, HK.out.1, HK.out.2.1⟩
      · clear hlt
        go_wp2
        go_ret
        exact ⟨ws, p, c, rfl, HK.out.2.2, HK.out.1, HK.out.2.1⟩

def isB (b : Int) (x : Ld) : Bool := x.1 == b

/-- The load of a backend; that of -1, if there is none. -/
def loadV (l : List Ld) (b : Int) : Ld := match find (isB b) l with
  | some i => l.getD i ld0
  | none => (-1, 0, 0)

theorem results_c {fn : Func} {x : Tmp} {t : TypeId} (h : fn.results = #[.cell x t]) {tmps : Array Value} {P : Program} {w : World} {p : Addr} {v1 : Value} (hx : tmps.getD x undef = .pointer (some p))
    (h1 : (loadVar t p).run P w = .ok v1 w) : (results fn tmps).run P w = .ok v1 w := by
  have e1 : ∀ a : Addr, (asAddr (.pointer (some a))).run P w = .ok a w := fun a => rfl
  simp only [Array.getD_eq_getD_getElem?] at hx
  simp [results, h, hx, e1, h1, Sem.run_bind]

theorem three_set {w : World} {g : Nat} {a b c a' b' c' : Value} {T : TypeId} (h : w.heap[g]? = some (.cells #[a, b, c] T (0, 0))) : (((w.setCell ⟨g, 0, none⟩ a').setCell ⟨g, 1, none⟩ b').setCell ⟨g, 2, none⟩ c').heap[g]? = some (.cells #[a', b', c'] T (0, 0)) :=
  heap_setCell_same _ _ 2 _ _ c' (heap_setCell_same _ _ 1 _ _ b' (heap_setCell_same w g 0 _ _ a' h))

set_option maxHeartbeats 4000000 in
theorem loadOf_any (v : Value) (l : List Ld) (bk : Int) (w : World) (hv : LdAt w v l) :
    Calls Try.prog 18 #[v, .int .i64 bk] w fun r w' => r = .returned (.agg #[.int .i64 (loadV l bk).1, .int .i64 (loadV l bk).2.1, .int .i64 (loadV l bk).2.2]) ∧ Below w.heap.size w w' := by
  obtain ⟨a, ca, rfl, hca, hma, pa⟩ := hv.parts
  unfold maxLen at hma
  obtain ⟨⟨e1, e2, e3⟩, hans⟩ : ∃ e, e = loadV l bk := ⟨_, rfl⟩
  rw [← hans]
  obtain ⟨W0, hW0⟩ : ∃ W0, W0 = w.alloc (.cells #[.int .i64 0, .int .i64 0, .int .i64 0] 37) := ⟨_, rfl⟩
  have hb0 : Below w.heap.size w W0 := by rw [hW0]; exact below_newL _
  have hR0 : W0.heap[w.heap.size]? = some (.cells #[.int .i64 0, .int .i64 0, .int .i64 0] 37 (0, 0)) := by rw [hW0]; exact heap_alloc_new _ _
  have hlt0 : w.heap.size < W0.heap.size := (Array.getElem?_eq_some_iff.1 hR0).1
  have r0 : W0.cell? ⟨w.heap.size, 0, none⟩ = some (.int .i64 0) := by simp [World.cell?, hR0]
  have r1 : W0.cell? ⟨w.heap.size, 1, none⟩ = some (.int .i64 0) := by simp [World.cell?, hR0]
  have r2 : W0.cell? ⟨w.heap.size, 2, none⟩ = some (.int .i64 0) := by simp [World.cell?, hR0]
  have s0 : W0.frozen? ⟨w.heap.size, 0, none⟩ = false := by simp [World.frozen?, hR0]
  have s1 : W0.frozen? ⟨w.heap.size, 1, none⟩ = false := by simp [World.frozen?, hR0]
  have s2 : W0.frozen? ⟨w.heap.size, 2, none⟩ = false := by simp [World.frozen?, hR0]
  have hset : ∀ x y z : Int, ∀ W, W = ((W0.setCell ⟨w.heap.size, 0, none⟩ (.int .i64 x)).setCell ⟨w.heap.size, 1, none⟩ (.int .i64 y)).setCell ⟨w.heap.size, 2, none⟩ (.int .i64 z) → W.heap[w.heap.size]? = some (.cells #[.int .i64 x, .int .i64 y, .int .i64 z] 37 (0, 0)) ∧ Below w.heap.size w W := fun x y z W hW => by
    subst hW
    exact ⟨three_set hR0, ((hb0.setCell (Nat.le_refl _) _).setCell (Nat.le_refl _) _).setCell (Nat.le_refl _) _⟩
  have H : Hid (_ ∧ _ ∧ _ ∧ _ ∧ _) := ⟨hans, pa, hb0, hW0, hset⟩
  clear hv hans pa hb0 hW0 hR0 hset
  go_enter Try.func18, Try.ntmps18
  go_wp2
  rw [← H.out.2.2.2.1]
  go_loopw [5] (fun i wr => ∃ k : Nat, i = .int .i64 k ∧ k ≤ l.length ∧ (∀ t ∈ l.take k, isB bk t = false) ∧ wr = W0) (fun i _ => l.length - (intOf i).toNat)
  case atStart => exact ⟨0, rfl, Nat.zero_le _, by simp, rfl⟩
  case round =>
    obtain ⟨k, rfl, hk, hall, rfl⟩ := hrel
    by_cases hlt : k < l.length
    · obtain ⟨b1, o1, rfl, hb1, c1, c2, c3⟩ := H.out.2.1 k hlt
      replace c1 := (H.out.2.2.1.cell (p := ⟨b1, o1 + k * 3, none⟩) hb1).trans c1
      replace c2 := (H.out.2.2.1.cell (p := ⟨b1, o1 + k * 3 + 1, none⟩) hb1).trans c2
      replace c3 := (H.out.2.2.1.cell (p := ⟨b1, o1 + k * 3 + 2, none⟩) hb1).trans c3
      have hkI : (k : Int) < (l.length : Int) := by omega
      have htk : l.take (k + 1) = l.take k ++ [l[k]] := List.take_succ_eq_append_getElem hlt
      have hfs : isB bk l[k] = true → loadV l bk = l[k] := fun h => by
        unfold loadV
        rw [find_some hlt hall h]
        simp [hlt]
      obtain ⟨⟨x1, x2, x3⟩, hxk⟩ : ∃ x, x = l[k] := ⟨_, rfl⟩
      rw [← hxk] at c1 c2 c3 htk hfs
      have HX : Hid (_ ∧ _ ∧ _) := ⟨htk, hfs, hall⟩
      clear hall hb1 htk hfs hxk
      cases h1 : (x1 == bk)
      · have HM : Hid (isB bk (x1, x2, x3) = false) := h1
        go_wp2
        go_roundw
        case rel =>
          refine ⟨k + 1, by simp, hlt, fun t ht => ?_, by trivial⟩
          rw [HX.out.1] at ht
          rcases List.mem_append.1 ht with ht | ht
          · exact HX.out.2.2 t ht
          · simp at ht
            rw [ht]
            exact HM.out
        case measure => simp [intOf]; omega
      · have hq := H.out.1.trans (HX.out.2.1 h1)
        injection hq with q1 q2
        injection q2 with q2 q3
        subst q1 q2 q3
        have hx : e1 = bk := by simpa using h1
        subst hx
        clear h1
        go_wp2
        obtain ⟨W9, hW9⟩ : ∃ W9, W9 = ((wr.setCell ⟨w.heap.size, 0, none⟩ (.int .i64 e1)).setCell ⟨w.heap.size, 1, none⟩ (.int .i64 e2)).setCell ⟨w.heap.size, 2, none⟩ (.int .i64 e3) := ⟨_, rfl⟩
        have h9 := H.out.2.2.2.2 e1 e2 e3 W9 hW9
        rw [← hW9]
        exact bodyPost_ret (v := .agg #[.int .i64 e1, .int .i64 e2, .int .i64 e3]) (results_c Try.results18 rfl (load_row (P := Try.prog) (cs := [.int .i64 e1, .int .i64 e2, .int .i64 e3]) h9.1 Try.underlying37 rfl (by kernel_rfl))) rfl ⟨rfl, h9.2⟩
    · have hq : (e1, e2, e3) = ((-1 : Int), (0 : Int), (0 : Int)) := by
        rw [H.out.1]
        unfold loadV
        rw [find_none fun t ht => hall t (by rw [List.take_of_length_le (by omega)]; exact ht)]
      injection hq with q1 q2
      injection q2 with q2 q3
      subst q1 q2 q3
      clear hall
      go_wp2
      obtain ⟨W9, hW9⟩ : ∃ W9, W9 = ((wr.setCell ⟨w.heap.size, 0, none⟩ (.int .i64 (-1))).setCell ⟨w.heap.size, 1, none⟩ (.int .i64 0)).setCell ⟨w.heap.size, 2, none⟩ (.int .i64 0) := ⟨_, rfl⟩
      have h9 := H.out.2.2.2.2 (-1) 0 0 W9 hW9
      rw [← hW9]
      exact bodyPost_ret (v := .agg #[.int .i64 (-1), .int .i64 0, .int .i64 0]) (results_c Try.results18 rfl (load_row (P := Try.prog) (cs := [.int .i64 (-1), .int .i64 0, .int .i64 0]) h9.1 Try.underlying37 rfl (by kernel_rfl))) rfl ⟨rfl, h9.2⟩
end Go.Proofs.Ytjkiahdeaeiopaa.Walks
