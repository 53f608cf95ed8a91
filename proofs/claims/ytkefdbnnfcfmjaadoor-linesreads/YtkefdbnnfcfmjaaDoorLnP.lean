/-
  Lines of events in plain mathematics: a kind's word, an event's line, how a line is cut at its blanks and read, and how a text falls into lines. Nothing of the program is named here. No condition.
-/
import Derived.Test.YtkefdbnnfcfmjaaDoorPlain
import Derived.Lib.ItoaMem
import Derived.Lib.ItoaLen
import Derived.Lib.AtoiTie
import Derived.Lib.SplitLaws
import Derived.Lib.Strings
namespace Go.Proofs.YtkefdbnnfcfmjaaDoor.Plain
open Go.Lib
set_option linter.unusedVariables false

def wordB (k : Int) : List UInt8 :=
  if k = 1 then [111, 112, 101, 110]
  else if k = 2 then [100, 97, 116, 97]
  else if k = 3 then [99, 108, 111, 115, 101]
  else if k = 4 then [97, 110, 115, 119, 101, 114]
  else if k = 5 then [106, 111, 105, 110]
  else if k = 6 then [114, 101, 116, 105, 114, 101]
  else if k = 7 then [116, 105, 99, 107]
  else []

def outB (g : Bool) : List UInt8 := if g then [103, 111, 111, 100] else [98, 97, 100]

/-- The places of a kind's numbers, in the order of its line. -/
def offs (k : Int) : List Nat :=
  if k = 1 then [1] else if k = 2 then [2, 3] else if k = 3 then [2, 3] else if k = 4 then [2, 3] else if k = 5 then [5, 6, 7] else if k = 6 then [5, 6] else []

/-- A line without its line feed. -/
def lineN (e : Ev) : List UInt8 :=
  wordB e.kind ++ (offs e.kind).flatMap (fun o => 32 :: itoa (e.num o)) ++ (if e.kind = 4 then 32 :: outB e.good else [])

def lineB (e : Ev) : List UInt8 := lineN e ++ [10]

/-- What stands between the blanks. -/
def sp : List UInt8 → List (List UInt8)
  | [] => [[]]
  | c :: r => if c = 32 then [] :: sp r else match sp r with
    | [] => [[c]]
    | h :: t => (c :: h) :: t

theorem sp_ne : ∀ l, sp l ≠ []
  | [] => by simp [sp]
  | c :: r => by
    unfold sp
    split
    · simp
    · split <;> simp

theorem sp_one : ∀ (l : List UInt8), 32 ∉ l → sp l = [l]
  | [], _ => rfl
  | c :: r, h => by
    have hc : ¬ c = 32 := fun e => h (by simp [e])
    have hr := sp_one r (fun e => h (List.mem_cons_of_mem _ e))
    rw [sp, if_neg hc, hr]

theorem sp_cut : ∀ (a b : List UInt8), 32 ∉ a → sp (a ++ 32 :: b) = a :: sp b
  | [], b, _ => by rw [List.nil_append, sp, if_pos rfl]
  | c :: r, b, h => by
    have hc : ¬ c = 32 := fun e => h (by simp [e])
    have hr := sp_cut r b (fun e => h (List.mem_cons_of_mem _ e))
    rw [List.cons_append, sp, if_neg hc, hr]

/-- The library's cutting at blanks is this one. -/
theorem sp_split (l : List UInt8) : split l [32] = sp l := by
  unfold split
  induction l with
  | nil => rfl
  | cons c r ih =>
    by_cases hc : c = 32
    · subst hc
      rw [sp, if_pos rfl, count_cons_eq, Nat.add_comm, splitK]
      have hi : index (32 :: r) [32] = 0 := by unfold index; simp
      rw [hi]
      simp [ih]
    · rw [sp, if_neg hc, count_cons_ne _ _ _ hc]
      have hp : ([32] : List UInt8).isPrefixOf (c :: r) = false := by simp [List.isPrefixOf, Ne.symm hc]
      have hix : index (c :: r) [32] = if index r [32] == -1 then -1 else index r [32] + 1 := by rw [index, hp]; simp
      by_cases hm : index r [32] = -1
      · rw [count_miss hm] at ih ⊢
        rw [← ih]; rfl
      · have hge := index_ge r [32]
        obtain ⟨j, hj⟩ : ∃ j : Nat, index r [32] = j := ⟨(index r [32]).toNat, by omega⟩
        have hix' : index (c :: r) [32] = ((j + 1 : Nat) : Int) := by rw [hix, if_neg (fun e => hm (beq_iff_eq.1 e)), hj]; omega
        rw [count_hit (by simp) hj, Nat.add_comm, splitK] at ih ⊢
        rw [hj] at ih
        rw [hix']
        have n1 : ((j : Int) == -1) = false := by rw [beq_eq_false_iff_ne]; omega
        have n2 : (((j + 1 : Nat) : Int) == -1) = false := by rw [beq_eq_false_iff_ne]; omega
        rw [n1] at ih
        rw [n2, ← ih]
        simp

/-- The kind of a word; 0: it is none's. -/
def kindB (w : List UInt8) : Int :=
  if w = wordB 1 then 1 else if w = wordB 2 then 2 else if w = wordB 3 then 3 else if w = wordB 4 then 4 else if w = wordB 5 then 5 else if w = wordB 6 then 6 else if w = wordB 7 then 7 else 0

/-- The fields at these places, read from these parts. -/
def fillP : List Nat → List (List UInt8) → Ev → Option Ev
  | [], _, e => some e
  | _ :: _, [], _ => none
  | o :: os, p :: ps, e => match atoiAll p with
    | .ok n => fillP os ps (e.put o n)
    | _ => none

def partsOf (line : List UInt8) : List (List UInt8) := sp (trimSuffix line [10])

/-- What is read of a line, before it is held against the line. -/
def rawP (line : List UInt8) : Option Ev :=
  let ps := partsOf line
  let k := kindB (ps.headD [])
  (fillP (offs k) ps.tail { Ev.zero with kind := k }).map fun e => { e with good := decide (k = 4) && decide (ps.getLastD [] = outB true) }

/-- The event of a line. -/
def evP (line : List UInt8) : Option Ev :=
  match rawP line with
  | none => none
  | some e => if fault e = 0 ∧ lineB e = line then some e else none

/-! digits -/
theorem dig_all (u : Nat) : ∀ c ∈ decDigits u, 48 ≤ c.toNat ∧ c.toNat ≤ 57 := by
  induction u using Nat.strongRecOn with
  | _ u ih =>
    intro c hc
    rw [decDigits] at hc
    split at hc
    · rw [List.mem_singleton] at hc; subst hc
      rw [UInt8.toNat_ofNat']; omega
    · rw [List.mem_append] at hc
      rcases hc with hc | hc
      · exact ih (u / 10) (by omega) c hc
      · rw [List.mem_singleton] at hc; subst hc
        rw [UInt8.toNat_ofNat']; omega

theorem itoa_all {n : Int} (h : 0 ≤ n) : ∀ c ∈ itoa n, 48 ≤ c.toNat ∧ c.toNat ≤ 57 := by
  unfold itoa; rw [if_neg (by omega)]; exact dig_all _

theorem itoa_no32 {n : Int} (h : 0 ≤ n) : (32 : UInt8) ∉ itoa n := fun hc => by have := itoa_all h 32 hc; simp at this
theorem itoa_no10 {n : Int} (h : 0 ≤ n) : (10 : UInt8) ∉ itoa n := fun hc => by have := itoa_all h 10 hc; simp at this

theorem decFrom_snoc : ∀ (l : List UInt8) (acc m : Nat) (c : UInt8), decFrom acc l = some m → 48 ≤ c.toNat → c.toNat ≤ 57 → decFrom acc (l ++ [c]) = some (m * 10 + (c.toNat - 48))
  | [], acc, m, c, h, h1, h2 => by
    simp only [decFrom, Option.some.injEq] at h; subst h
    simp [decFrom, digitVal, h1, h2]
  | a :: l, acc, m, c, h, h1, h2 => by
    rw [List.cons_append]
    simp only [decFrom] at h ⊢
    cases hd : digitVal a with
    | none => simp [hd] at h
    | some d => simp only [hd] at h ⊢; exact decFrom_snoc l _ m c h h1 h2

theorem decFrom_dig (u : Nat) : decFrom 0 (decDigits u) = some u := by
  induction u using Nat.strongRecOn with
  | _ u ih =>
    rw [decDigits]
    split
    · have : (UInt8.ofNat (48 + u)).toNat = 48 + u := by rw [UInt8.toNat_ofNat']; omega
      simp only [decFrom, digitVal, this]
      rw [if_pos (by omega)]
      simp
    · have e : (UInt8.ofNat (48 + u % 10)).toNat = 48 + u % 10 := by rw [UInt8.toNat_ofNat']; omega
      rw [decFrom_snoc _ _ _ _ (ih (u / 10) (by omega)) (by omega) (by omega), e]
      congr 1; omega

theorem dig_ne (u : Nat) : decDigits u ≠ [] := by
  rw [decDigits]; split <;> simp

theorem dig_len (u k : Nat) (h : u < 10 ^ (k + 1)) : (decDigits u).length ≤ k + 1 := by
  induction k generalizing u with
  | zero => rw [decDigits, dif_pos (by simpa using h)]; simp
  | succ k ih =>
    rw [decDigits]
    split
    · simp
    · have := ih (u / 10) (by rw [Nat.div_lt_iff_lt_mul (by omega)]; rw [Nat.pow_succ] at h; exact h)
      simp; omega

theorem itoa_len {n : Int} (h0 : 0 ≤ n) (h : n ≤ 4294967295) : (itoa n).length ≤ 10 := by
  unfold itoa; rw [if_neg (by omega)]; exact dig_len _ 9 (by omega)

theorem atoi_itoa {n : Int} (h0 : 0 ≤ n) (h : n ≤ 4294967295) : atoiAll (itoa n) = .ok n := by
  have hl := itoa_len h0 h
  rw [atoiAll_short _ (by omega)]
  have ha := itoa_all h0
  unfold itoa at *
  rw [if_neg (by omega)] at *
  have hd := decFrom_dig n.toNat
  have hne := dig_ne n.toNat
  generalize decDigits n.toNat = l at *
  match l, hne with
  | b :: r, _ =>
    have hb := ha b (by simp)
    have h1 : (b == 45) = false := by rw [beq_eq_false_iff_ne]; intro e; subst e; simp at hb
    have h2 : (b == 43) = false := by rw [beq_eq_false_iff_ne]; intro e; subst e; simp at hb
    rw [atoi, h1, h2]
    simp only [decNat, List.isEmpty_cons, Bool.false_eq_true, if_false, hd, Option.map_some]
    show NumEnd.ok _ = NumEnd.ok _
    congr 1; omega

/-! an event that may come -/
theorem fault_zero {e : Ev} (h : fault e = 0) : ∃ fs, flds e.kind = some fs ∧ (∀ f ∈ fs, f.lo ≤ e.num f.off ∧ e.num f.off ≤ f.hi) ∧ { e.clear fs with kind := 0 } = Ev.zero := by
  unfold fault at h
  cases hf : flds e.kind with
  | none => rw [hf] at h; simp at h
  | some fs =>
    rw [hf] at h
    dsimp only at h
    refine ⟨fs, rfl, ?_⟩
    by_cases ha : fs.all e.within = true
    · simp only [ha, if_true] at h
      by_cases hc : e.clean fs = true
      · refine ⟨fun f hm => ?_, of_decide_eq_true hc⟩
        have := List.all_eq_true.1 ha f hm
        exact of_decide_eq_true this
      · rw [if_neg hc] at h; simp at h
    · rw [if_neg ha] at h; simp at h

/-- The events that may come, kind by kind. -/
theorem may_cases {e : Ev} (h : fault e = 0) :
    (∃ n, 0 ≤ n ∧ n ≤ 4294967295 ∧ e = ⟨1, n, 0, 0, false, 0, 0, 0⟩) ∨
    (∃ k s g, (k = 2 ∨ k = 3) ∧ 0 ≤ s ∧ s ≤ 39 ∧ 0 ≤ g ∧ g ≤ 1048576 ∧ e = ⟨k, 0, s, g, false, 0, 0, 0⟩) ∨
    (∃ s g b, 0 ≤ s ∧ s ≤ 39 ∧ 0 ≤ g ∧ g ≤ 1048576 ∧ e = ⟨4, 0, s, g, b, 0, 0, 0⟩) ∨
    (∃ r b w, 0 ≤ r ∧ r ≤ 1048576 ∧ 0 ≤ b ∧ b ≤ 11 ∧ 1 ≤ w ∧ w ≤ 8 ∧ e = ⟨5, 0, 0, 0, false, r, b, w⟩) ∨
    (∃ r b, 0 ≤ r ∧ r ≤ 1048576 ∧ 0 ≤ b ∧ b ≤ 11 ∧ e = ⟨6, 0, 0, 0, false, r, b, 0⟩) ∨ e = ⟨7, 0, 0, 0, false, 0, 0, 0⟩ := by
  obtain ⟨fs, hf, hin, hcl⟩ := fault_zero h
  obtain ⟨k, key, slot, gen, good, req, be, wt⟩ := e
  rcases flds_cases k with ⟨_, h'⟩ | rfl | rfl | rfl | rfl | rfl | rfl | rfl
  · simp only at hf; rw [h'] at hf; cases hf
  all_goals (simp [flds] at hf; subst hf; simp [Ev.clear, Ev.put, Ev.zero, Ev.num] at hin hcl)
  · exact .inl ⟨key, hin.1, hin.2, by simp [hcl]⟩
  · exact .inr (.inl ⟨2, slot, gen, .inl rfl, by omega, by omega, by omega, by omega, by simp [hcl]⟩)
  · exact .inr (.inl ⟨3, slot, gen, .inr rfl, by omega, by omega, by omega, by omega, by simp [hcl]⟩)
  · exact .inr (.inr (.inl ⟨slot, gen, good, by omega, by omega, by omega, by omega, by simp [hcl]⟩))
  · exact .inr (.inr (.inr (.inl ⟨req, be, wt, by omega, by omega, by omega, by omega, by omega, by omega, by simp [hcl]⟩)))
  · exact .inr (.inr (.inr (.inr (.inl ⟨req, be, by omega, by omega, by omega, by omega, by simp [hcl]⟩))))
  · exact .inr (.inr (.inr (.inr (.inr (by simp [hcl])))))

theorem trim_feed (l : List UInt8) : trimSuffix (l ++ [10]) [10] = l := by
  unfold trimSuffix hasSuffix
  rw [if_pos (by rw [List.isSuffixOf_iff_suffix]; exact ⟨l, rfl⟩)]
  simp

theorem no32_word (k : Int) : (32 : UInt8) ∉ wordB k := by
  unfold wordB; repeat' split
  all_goals simp
theorem no10_word (k : Int) : (10 : UInt8) ∉ wordB k := by
  unfold wordB; repeat' split
  all_goals simp
theorem no32_out (g : Bool) : (32 : UInt8) ∉ outB g := by cases g <;> simp [outB]
theorem no10_out (g : Bool) : (10 : UInt8) ∉ outB g := by cases g <;> simp [outB]

/-- An event's line is read as that event. -/
theorem raw_line {e : Ev} (h : fault e = 0) : rawP (lineB e) = some e := by
  have hp : partsOf (lineB e) = sp (lineN e) := by unfold partsOf lineB; rw [trim_feed]
  unfold rawP
  rw [hp]
  rcases may_cases h with ⟨n, h0, h1, rfl⟩ | ⟨k, s, g, hk, h0, h1, h2, h3, rfl⟩ | ⟨s, g, b, h0, h1, h2, h3, rfl⟩ | ⟨r, b, w, h0, h1, h2, h3, h4, h5, rfl⟩ | ⟨r, b, h0, h1, h2, h3, rfl⟩ | rfl
  · have e1 : sp (lineN ⟨1, n, 0, 0, false, 0, 0, 0⟩) = [wordB 1, itoa n] := by
      simp only [lineN, offs, Ev.num]; simp
      rw [sp_cut _ _ (no32_word 1), sp_one _ (itoa_no32 h0)]
    rw [e1]
    simp [kindB, wordB, offs, fillP, atoi_itoa h0 h1, Ev.put, Ev.zero]
  · have e1 : sp (lineN ⟨k, 0, s, g, false, 0, 0, 0⟩) = [wordB k, itoa s, itoa g] := by
      rcases hk with rfl | rfl
      all_goals
        simp only [lineN, offs, Ev.num]; simp
        rw [sp_cut _ _ (no32_word _), sp_cut _ _ (itoa_no32 h0), sp_one _ (itoa_no32 h2)]
    rw [e1]
    rcases hk with rfl | rfl
    all_goals simp [kindB, wordB, offs, fillP, atoi_itoa h0 (by omega : s ≤ 4294967295), atoi_itoa h2 (by omega : g ≤ 4294967295), Ev.put, Ev.zero]
  · have e1 : sp (lineN ⟨4, 0, s, g, b, 0, 0, 0⟩) = [wordB 4, itoa s, itoa g, outB b] := by
      simp only [lineN, offs, Ev.num]; simp
      rw [sp_cut _ _ (no32_word _), sp_cut _ _ (itoa_no32 h0), sp_cut _ _ (itoa_no32 h2), sp_one _ (no32_out b)]
    rw [e1]
    cases b
    all_goals simp [kindB, wordB, offs, fillP, atoi_itoa h0 (by omega : s ≤ 4294967295), atoi_itoa h2 (by omega : g ≤ 4294967295), Ev.put, Ev.zero, outB]
  · have e1 : sp (lineN ⟨5, 0, 0, 0, false, r, b, w⟩) = [wordB 5, itoa r, itoa b, itoa w] := by
      simp only [lineN, offs, Ev.num]; simp
      rw [sp_cut _ _ (no32_word _), sp_cut _ _ (itoa_no32 h0), sp_cut _ _ (itoa_no32 h2), sp_one _ (itoa_no32 (by omega : 0 ≤ w))]
    rw [e1]
    simp [kindB, wordB, offs, fillP, atoi_itoa h0 (by omega : r ≤ 4294967295), atoi_itoa h2 (by omega : b ≤ 4294967295), atoi_itoa (by omega : 0 ≤ w) (by omega : w ≤ 4294967295), Ev.put, Ev.zero]
  · have e1 : sp (lineN ⟨6, 0, 0, 0, false, r, b, 0⟩) = [wordB 6, itoa r, itoa b] := by
      simp only [lineN, offs, Ev.num]; simp
      rw [sp_cut _ _ (no32_word _), sp_cut _ _ (itoa_no32 h0), sp_one _ (itoa_no32 h2)]
    rw [e1]
    simp [kindB, wordB, offs, fillP, atoi_itoa h0 (by omega : r ≤ 4294967295), atoi_itoa h2 (by omega : b ≤ 4294967295), Ev.put, Ev.zero]
  · have e1 : sp (lineN ⟨7, 0, 0, 0, false, 0, 0, 0⟩) = [wordB 7] := by
      simp only [lineN, offs, Ev.num]; simp
      rw [sp_one _ (no32_word _)]
    rw [e1]
    simp [kindB, wordB, offs, fillP, Ev.zero]

/-- A line is read as an event just if it is that event's line. -/
theorem evP_iff (line : List UInt8) (e : Ev) : evP line = some e ↔ fault e = 0 ∧ lineB e = line := by
  constructor
  · intro h
    unfold evP at h
    split at h
    · cases h
    · split at h
      · cases h; assumption
      · cases h
  · rintro ⟨h, rfl⟩
    unfold evP
    rw [raw_line h]
    simp [h]

theorem line_inj {a b : Ev} (ha : fault a = 0) (hb : fault b = 0) (h : lineB a = lineB b) : a = b := by
  have h1 := (evP_iff (lineB a) a).2 ⟨ha, rfl⟩
  have h2 := (evP_iff (lineB a) b).2 ⟨hb, h.symm⟩
  rw [h1] at h2; exact Option.some.inj h2

theorem lineN_no10 {e : Ev} (h : fault e = 0) : (10 : UInt8) ∉ lineN e := by
  rcases may_cases h with ⟨n, h0, h1, rfl⟩ | ⟨k, s, g, hk, h0, h1, h2, h3, rfl⟩ | ⟨s, g, b, h0, h1, h2, h3, rfl⟩ | ⟨r, b, w, h0, h1, h2, h3, h4, h5, rfl⟩ | ⟨r, b, h0, h1, h2, h3, rfl⟩ | rfl
  · simp [lineN, offs, Ev.num, no10_word, itoa_no10 h0]
  · rcases hk with rfl | rfl
    all_goals simp [lineN, offs, Ev.num, no10_word, itoa_no10 h0, itoa_no10 h2]
  · simp [lineN, offs, Ev.num, no10_word, itoa_no10 h0, itoa_no10 h2, no10_out]
  · simp [lineN, offs, Ev.num, no10_word, itoa_no10 h0, itoa_no10 h2, itoa_no10 (by omega : 0 ≤ w)]
  · simp [lineN, offs, Ev.num, no10_word, itoa_no10 h0, itoa_no10 h2]
  · simp [lineN, offs, Ev.num, no10_word]

theorem word_len (k : Int) : (wordB k).length ≤ 6 := by
  unfold wordB; repeat' split
  all_goals simp

theorem line_len {e : Ev} (h : fault e = 0) : (lineB e).length ≤ 45 := by
  have hw := word_len e.kind
  rcases may_cases h with ⟨n, h0, h1, rfl⟩ | ⟨k, s, g, hk, h0, h1, h2, h3, rfl⟩ | ⟨s, g, b, h0, h1, h2, h3, rfl⟩ | ⟨r, b, w, h0, h1, h2, h3, h4, h5, rfl⟩ | ⟨r, b, h0, h1, h2, h3, rfl⟩ | rfl
  · have := itoa_len h0 h1
    simp [lineB, lineN, offs, Ev.num] at *; omega
  · have i1 := itoa_len h0 (by omega)
    have i2 := itoa_len h2 (by omega)
    rcases hk with rfl | rfl
    all_goals (simp [lineB, lineN, offs, Ev.num] at *; omega)
  · have i1 := itoa_len h0 (by omega)
    have i2 := itoa_len h2 (by omega)
    have i3 : (outB b).length ≤ 4 := by cases b <;> simp [outB]
    simp [lineB, lineN, offs, Ev.num] at *; omega
  · have i1 := itoa_len h0 (by omega)
    have i2 := itoa_len h2 (by omega)
    have i3 := itoa_len (by omega : 0 ≤ w) (by omega)
    simp [lineB, lineN, offs, Ev.num] at *; omega
  · have i1 := itoa_len h0 (by omega)
    have i2 := itoa_len h2 (by omega)
    simp [lineB, lineN, offs, Ev.num] at *; omega
  · simp [lineB, lineN, offs, Ev.num] at *; omega

/-! a text and its lines -/
/-- The lines of a text, each with its line feed. -/
def lns : List UInt8 → List (List UInt8)
  | [] => []
  | c :: r => if c = 10 then [10] :: lns r else match lns r with
    | [] => [[c]]
    | h :: t => (c :: h) :: t

theorem lns_flat : ∀ t, (lns t).flatten = t
  | [] => rfl
  | c :: r => by
    have ih := lns_flat r
    unfold lns
    split
    · subst_vars; simp [ih]
    · split
      · rename_i h; rw [h] at ih; simp at ih; subst ih; rfl
      · rename_i h t he; rw [he] at ih; simp only [List.flatten_cons, List.cons_append] at ih ⊢; rw [ih]

theorem lns_cut : ∀ (a b : List UInt8), 10 ∉ a → lns (a ++ 10 :: b) = (a ++ [10]) :: lns b
  | [], b, _ => by rw [List.nil_append, lns, if_pos rfl]; rfl
  | c :: r, b, h => by
    have hc : ¬ c = 10 := fun e => h (by simp [e])
    have hr := lns_cut r b (fun e => h (List.mem_cons_of_mem _ e))
    rw [List.cons_append, lns, if_neg hc, hr]; rfl

theorem lns_last : ∀ (a : List UInt8), a ≠ [] → 10 ∉ a → lns a = [a]
  | [], h, _ => absurd rfl h
  | c :: r, _, h => by
    have hc : ¬ c = 10 := fun e => h (by simp [e])
    rw [lns, if_neg hc]
    cases r with
    | nil => rfl
    | cons d r => rw [lns_last (d :: r) (by simp) (fun e => h (List.mem_cons_of_mem _ e))]

def shown (l : List Ev) : List UInt8 := l.flatMap lineB

theorem lns_shown : ∀ (l : List Ev) (b : List UInt8), (∀ e ∈ l, fault e = 0) → lns (shown l ++ b) = l.map lineB ++ lns b
  | [], b, _ => rfl
  | e :: l, b, h => by
    have ih := lns_shown l b (fun x hx => h x (List.mem_cons_of_mem _ hx))
    have he := lineN_no10 (h e (by simp))
    have : shown (e :: l) ++ b = lineN e ++ 10 :: (shown l ++ b) := by simp [shown, lineB]
    rw [this, lns_cut _ _ he, ih]; rfl

theorem shown_len : ∀ (l : List Ev), (∀ e ∈ l, fault e = 0) → (shown l).length ≤ 45 * l.length
  | [], _ => by simp [shown]
  | e :: l, h => by
    have ih := shown_len l (fun x hx => h x (List.mem_cons_of_mem _ hx))
    have := line_len (h e (by simp))
    simp [shown] at *; omega

/-- The first event that may not come: its place and what is wrong. -/
def badAt : Nat → List Ev → Option (Nat × Int)
  | _, [] => none
  | k, e :: r => if fault e = 0 then badAt (k + 1) r else some (k, fault e)

def showB (l : List Ev) : Option (Nat × Int) → List UInt8 × Int × Int
  | none => (shown l, 0, 0)
  | some (k, c) => ([], k, c)

/-- What Show answers: the text, the place, the error. -/
def showR (l : List Ev) : List UInt8 × Int × Int := if 4000 < l.length then ([], 0, 1) else showB l (badAt 0 l)

theorem badAt_none : ∀ (l : List Ev) (k : Nat), (∀ e ∈ l, fault e = 0) → badAt k l = none
  | [], _, _ => rfl
  | e :: l, k, h => by rw [badAt, if_pos (h e (by simp)), badAt_none l _ (fun x hx => h x (List.mem_cons_of_mem _ hx))]

theorem showR_ok {l : List Ev} (h : ∀ e ∈ l, fault e = 0) (hl : l.length ≤ 4000) : showR l = (shown l, 0, 0) := by
  unfold showR; rw [if_neg (by omega), badAt_none l 0 h]; rfl

/-- Line by line: the events, or the error and its place. -/
def readF : Nat → List Ev → List (List UInt8) → Sum (Int × Nat) (List Ev)
  | _, acc, [] => .inr acc
  | k, acc, x :: r => if 4000 ≤ k then .inl (9, k) else match evP x with
    | none => .inl (3, k)
    | some e => readF (k + 1) (acc ++ [e]) r

def readT (t : List UInt8) : Sum (Int × Nat) (List Ev) := if 200000 < t.length then .inl (1, 0) else readF 0 [] (lns t)

theorem readF_shown : ∀ (l : List Ev) (k : Nat) (acc : List Ev) (r : List (List UInt8)), (∀ e ∈ l, fault e = 0) → k + l.length ≤ 4000 → readF k acc (l.map lineB ++ r) = readF (k + l.length) (acc ++ l) r
  | [], k, acc, r, _, _ => by simp
  | e :: l, k, acc, r, h, hk => by
    simp only [List.length_cons] at hk
    have ih := readF_shown l (k + 1) (acc ++ [e]) r (fun x hx => h x (List.mem_cons_of_mem _ hx)) (by omega)
    rw [List.map_cons, List.cons_append, readF, if_neg (by omega), (evP_iff _ e).2 ⟨h e (by simp), rfl⟩]
    simp only
    rw [ih]
    simp [Nat.add_assoc, Nat.add_comm 1]

theorem readF_ok : ∀ (r : List (List UInt8)) (k : Nat) (acc l : List Ev), readF k acc r = .inr l → ∃ m, l = acc ++ m ∧ r = m.map lineB ∧ (∀ e ∈ m, fault e = 0) ∧ (m = [] ∨ k + m.length ≤ 4000)
  | [], k, acc, l, h => by
    simp only [readF, Sum.inr.injEq] at h
    exact ⟨[], by simp [h], rfl, by simp, .inl rfl⟩
  | x :: r, k, acc, l, h => by
    rw [readF] at h
    split at h
    · cases h
    · split at h
      · cases h
      · rename_i e he
        obtain ⟨h1, h2⟩ := (evP_iff _ _).1 he
        obtain ⟨m, rfl, rfl, h3, h4⟩ := readF_ok r _ _ _ h
        refine ⟨e :: m, by simp, by simp [h2], ?_, .inr ?_⟩
        · intro y hy
          rcases List.mem_cons.1 hy with rfl | hy
          · exact h1
          · exact h3 y hy
        · rcases h4 with rfl | h4
          · simp; omega
          · simp only [List.length_cons]; omega

theorem readF_err : ∀ (r : List (List UInt8)) (k : Nat) (acc : List Ev) (c : Int) (p : Nat), readF k acc r = .inl (c, p) → k ≤ 4000 → p ≤ 4000 ∧ (c = 9 ∨ c = 3)
  | [], k, acc, c, p, h, _ => by simp [readF] at h
  | x :: r, k, acc, c, p, h, hk => by
    rw [readF] at h
    split at h
    · simp at h; obtain ⟨rfl, rfl⟩ := h; exact ⟨hk, .inl rfl⟩
    · split at h
      · simp at h; obtain ⟨rfl, rfl⟩ := h; exact ⟨hk, .inr rfl⟩
      · exact readF_err r _ _ c p h (by omega)

/-- What is shown is read. -/
theorem read_shown {l : List Ev} (h : ∀ e ∈ l, fault e = 0) (hl : l.length ≤ 4000) : readT (shown l) = .inr l := by
  have := shown_len l h
  unfold readT
  rw [if_neg (by omega)]
  have e := lns_shown l [] h
  rw [List.append_nil] at e
  rw [e, readF_shown l 0 [] _ h (by omega)]
  simp [lns, readF]

/-- What is read is shown as it was. -/
theorem shown_read {t : List UInt8} {l : List Ev} (h : readT t = .inr l) : shown l = t ∧ (∀ e ∈ l, fault e = 0) ∧ l.length ≤ 4000 := by
  unfold readT at h
  split at h
  · cases h
  · obtain ⟨m, rfl, hr, h3, h4⟩ := readF_ok _ _ _ _ h
    refine ⟨?_, by simpa using h3, ?_⟩
    · rw [← lns_flat t, hr]; simp [shown, List.flatMap]
    · rcases h4 with rfl | h4 <;> simp at * ; omega

end Go.Proofs.YtkefdbnnfcfmjaaDoor.Plain
