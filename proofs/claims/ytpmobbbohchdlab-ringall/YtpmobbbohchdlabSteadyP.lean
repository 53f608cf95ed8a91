/-
  A backend that goes leaves the others in their order: plain lists. And usherkeep.without.
-/
import Derived.Test.YtpmobbbohchdlabRFine
import Derived.WalkKit
import Derived.ProofKit
import Derived.Handy
import Derived.LoopTactic
import Derived.Below
import Derived.Laws.BitsAllLaws
import Derived.RegionTactic
import Derived.Deep.RegionHeld3
import Derived.Deep.DrawnRows
import Derived.Deep.AppendLies
import Derived.Laws.OwnMore
import Derived.Deep.Onto
import Derived.Deep.QuietTactic
import Derived.BigQuiet
namespace Go.Proofs.Ytpmobbbohchdlab.Walks
open Go.RowKit
set_option linter.unusedVariables false
set_option linter.unusedSimpArgs false
attribute [local go_sem ↓] Go.wp_at_zero Go.wp_at_succ

/-- Without a number. -/
def wo (l : List Int) (n : Int) : List Int := l.filter fun x => decide (x ≠ n)

theorem wo_snoc (l : List Int) (x n : Int) : wo (l ++ [x]) n = wo l n ++ if x = n then [] else [x] := by
  by_cases h : x = n <;> simp [wo, h]

theorem wo_len (l : List Int) (n : Int) : (wo l n).length ≤ l.length := List.length_filter_le _ _

theorem mem_wo {l : List Int} {n x : Int} : x ∈ wo l n ↔ x ∈ l ∧ x ≠ n := by simp [wo]

theorem firsts_kp (n : Int) : ∀ (m : List Tm) (x y : List Int), y = wo x n → (kp m n).foldl stepF y = wo (m.foldl stepF x) n
  | [], x, y, h => by simpa [kp] using h
  | t :: m, x, y, h => by
    by_cases ht : t.2 = n
    · have e : kp (t :: m) n = kp m n := by simp [kp, ht]
      rw [e, List.foldl_cons]
      refine firsts_kp n m (stepF x t) y ?_
      unfold stepF
      split
      · exact h
      · rw [wo_snoc, if_pos ht, List.append_nil]; exact h
    · have e : kp (t :: m) n = t :: kp m n := by simp [kp, ht]
      rw [e, List.foldl_cons, List.foldl_cons]
      refine firsts_kp n m (stepF x t) (stepF y t) ?_
      unfold stepF
      have hm : t.2 ∈ y ↔ t.2 ∈ x := by rw [h, mem_wo]; exact ⟨fun h => h.1, fun h => ⟨h, ht⟩⟩
      by_cases hx : t.2 ∈ x
      · rw [if_pos hx, if_pos (hm.2 hx)]; exact h
      · rw [if_neg hx, if_neg (fun h => hx (hm.1 h)), wo_snoc, if_neg ht, h]

theorem turn_kp (l : List Tm) (n at_ : Int) : turnAt (kp l n) at_ = kp (turnAt l at_) n := by
  unfold turnAt kp
  rw [List.filter_append, List.filter_filter, List.filter_filter, List.filter_filter, List.filter_filter]
  congr 1 <;> (apply List.filter_congr; intro t _; exact Bool.and_comm _ _)

theorem walk_kp (l : List Tm) (n at_ : Int) : walkAt (kp l n) at_ = wo (walkAt l at_) n := by
  unfold walkAt
  rw [turn_kp]
  exact firsts_kp n _ [] [] rfl

theorem foldF_nodup : ∀ (m : List Tm) (x : List Int), x.Nodup → (m.foldl stepF x).Nodup
  | [], _, h => h
  | t :: m, x, h => by
    rw [List.foldl_cons]
    refine foldF_nodup m _ ?_
    unfold stepF
    split
    · exact h
    · rename_i hn
      rw [List.nodup_append]
      exact ⟨h, by simp, fun a ha b hb e => hn (by rw [List.mem_singleton] at hb; rw [← hb, ← e]; exact ha)⟩

theorem foldF_mem : ∀ (m : List Tm) (x : List Int) (n : Int), n ∈ m.foldl stepF x ↔ n ∈ x ∨ ∃ t ∈ m, t.2 = n
  | [], x, n => by simp
  | t :: m, x, n => by
    rw [List.foldl_cons, foldF_mem m, mem_stepF]
    constructor
    · rintro ((h | h) | ⟨t', h1, h2⟩)
      · exact .inl h
      · exact .inr ⟨t, List.mem_cons_self .., h.symm⟩
      · exact .inr ⟨t', List.mem_cons_of_mem _ h1, h2⟩
    · rintro (h | ⟨t', h1, h2⟩)
      · exact .inl (.inl h)
      · rcases List.mem_cons.1 h1 with rfl | h1
        · exact .inl (.inr h2.symm)
        · exact .inr ⟨t', h1, h2⟩

theorem walk_nodup (l : List Tm) (at_ : Int) : (walkAt l at_).Nodup := foldF_nodup _ [] List.nodup_nil

theorem mem_walk (l : List Tm) (at_ n : Int) : n ∈ walkAt l at_ ↔ ∃ t ∈ l, t.2 = n := by
  unfold walkAt firsts
  rw [foldF_mem]
  constructor
  · rintro (h | ⟨t, h1, h2⟩)
    · cases h
    · exact ⟨t, mem_turnAt.1 h1, h2⟩
  · rintro ⟨t, h1, h2⟩
    exact .inr ⟨t, mem_turnAt.2 h1, h2⟩

theorem wo_len_mem : ∀ (l : List Int) (n : Int), l.Nodup → n ∈ l → (wo l n).length + 1 = l.length
  | [], _, _, h => by cases h
  | x :: l, n, hd, h => by
    have hd2 := List.nodup_cons.1 hd
    by_cases e : x = n
    · subst e
      have : wo (x :: l) x = l := by
        unfold wo
        rw [List.filter_cons_of_neg (by simp)]
        exact List.filter_eq_self.2 fun y hy => by simpa using fun e => hd2.1 (by rw [← e]; exact hy)
      rw [this, List.length_cons]
    · have h2 : n ∈ l := (List.mem_cons.1 h).resolve_left (fun h => e h.symm)
      have := wo_len_mem l n hd2.2 h2
      have e2 : wo (x :: l) n = x :: wo l n := by
        unfold wo
        rw [List.filter_cons_of_pos (by simpa using e)]
      rw [e2, List.length_cons, List.length_cons]
      omega

theorem walk_len (l : List Tm) (at_ : Int) : (walkAt l at_).length ≤ l.length := by
  have := firsts_len (turnAt l at_)
  rw [turnAt_len] at this
  exact this

theorem icells_take_succ (l : List Int) (k : Nat) (h : k < l.length) : l.take (k + 1) = l.take k ++ [l[k]] := List.take_succ_eq_append_getElem h

set_option maxHeartbeats 4000000 in
set_option maxRecDepth 100000 in
theorem without_any (v : Value) (l : List Int) (n : Int) (w : World) (hv : IntsAt w v l) (hl : l.length ≤ 1048576) :
    Calls Try.prog 12 #[v, .int .i64 n] w fun r w' => ∃ p c, r = .returned (.slice p (wo l n).length c) ∧ w'.ownsRow w.heap.size 3 1 (.slice p (wo l n).length c) (wo l n).length (icells (wo l n)) ∧ Below w.heap.size w w' := by
  obtain ⟨a, ca, rfl, hca, hma, pa⟩ := hv.parts
  have HP : Hid _ := pa
  clear pa hv
  obtain ⟨i0, hi, hz0, hz1, hz2⟩ := info_parts infoInt
  go_enter Try.func12, Try.ntmps12
  go_wp2
  go_loopw [5, 6] (fun x t wr => ∃ k : Nat, t = .int .i64 k ∧ k ≤ l.length ∧ wr.ownsRow w.heap.size 3 1 x (wo (l.take k) n).length (icells (wo (l.take k) n)) ∧ Below w.heap.size w wr) (fun _ t _ => l.length - (intOf t).toNat)
  case atStart => exact ⟨0, rfl, Nat.zero_le _, World.ownsRow_nil _ _ _ _, Below.refl _ _⟩
  case round =>
    obtain ⟨k, rfl, hk, hrow, hb⟩ := hrel
    by_cases hlt : k < l.length
    · obtain ⟨b1, o1, rfl, hb1, c1⟩ := HP.out k hlt
      have e1 := (hb.cell (p := ⟨b1, o1 + k, none⟩) hb1).trans c1
      have hs := wo_snoc (l.take k) l[k] n
      rw [← icells_take_succ l k hlt] at hs
      have hlen := wo_len (l.take k) n
      rw [List.length_take] at hlen
      generalize l[k] = x at *
      obtain ⟨out, ho⟩ : ∃ out, out = wo (l.take k) n := ⟨_, rfl⟩
      rw [← ho] at hs hrow hlen
      have hkI : (k : Int) < (l.length : Int) := by omega
      have HK : Hid (_ ∧ _ ∧ _) := ⟨hrow, hb, hs⟩
      have hsz := hb.size
      clear hrow hb hs c1 ho
      by_cases hx : x = n
      · subst hx
        go_wp2
        go_roundw
        case rel => exact ⟨k + 1, by simp, hlt, by rw [HK.out.2.2, if_pos rfl, List.append_nil]; exact HK.out.1, HK.out.2.1⟩
        case measure => simp [intOf]; omega
      · have hxI : (x != n) = true := by simpa using hx
        have HX : Hid _ := hx
        clear hx
        go_wp2_with (first | (at_builtin; refine wpList_append_lies _ rfl _ _ 29 rfl w.heap.size 3 i0 _ 1 8 Try.underlying29 hi hz0 hz1 hz2 rfl (by decide) u5 _ _ rfl (HK.out.1.alloc _) _ 1 1 [.int .i64 x] rfl rfl (news_at _ _ _) (by intro u hu; rw [List.mem_singleton.1 hu]; rfl) (by decide) (by unfold maxLen; omega) (by omega) (by simp; omega) _ rfl ?_; intro g' cap w2 hown2 hg2 hlies hlt2))
        go_wp2
        go_roundw
        case rel =>
          refine ⟨k + 1, by simp, hlt, ?_, ?_⟩
          · rw [HK.out.2.2, if_neg HX.out, icells_append, List.length_append]
            exact hown2
          · have h1 := HK.out.2.1.alloc HK.out.2.1.size (.cells #[.int .i64 x] 3)
            exact h1.grown hg2 h1.size (fun j e => (HK.out.1.lt j e).1)
        case measure => simp [intOf]; omega
    · obtain rfl : k = l.length := by omega
      rw [List.take_length] at hrow
      obtain ⟨p, c, rfl⟩ := own_form hrow
      have HK : Hid (_ ∧ _) := ⟨hrow, hb⟩
      clear hrow hb
      go_wp2
      go_ret
      exact ⟨p, c, rfl, HK.out.1, HK.out.2⟩
end Go.Proofs.Ytpmobbbohchdlab.Walks
