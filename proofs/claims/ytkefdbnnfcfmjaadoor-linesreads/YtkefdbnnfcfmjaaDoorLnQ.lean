/-
  The document's reading of a line in plain mathematics: whole numbers by their digits, words between blanks; it is the reading that holds the line against the event's own. No condition.
-/
import Derived.Test.YtkefdbnnfcfmjaaDoorLnP
import Derived.Test.YtkefdbnnfcfmjaaDoorPlain2
namespace Go.Proofs.YtkefdbnnfcfmjaaDoor.Plain
open Go.Lib
set_option linter.unusedVariables false

/-- The number of these digits; -1: one is none. -/
def wd : Nat → List UInt8 → Int
  | acc, [] => acc
  | acc, c :: r => if c.toNat < 48 ∨ 57 < c.toNat then -1 else wd (10 * acc + (c.toNat - 48)) r

def wholeP (s : List UInt8) : Int := if s.length = 0 ∨ 10 < s.length ∨ (s.head? = some 48 ∧ 1 < s.length) then -1 else wd 0 s

theorem wd_snoc : ∀ (l : List UInt8) (acc m : Nat) (c : UInt8), wd acc l = (m : Int) → 48 ≤ c.toNat → c.toNat ≤ 57 → wd acc (l ++ [c]) = ((10 * m + (c.toNat - 48) : Nat) : Int)
  | [], acc, m, c, h, h1, h2 => by
    have h : (acc : Int) = m := h
    obtain rfl : acc = m := by omega
    rw [List.nil_append, wd, if_neg (by omega), wd]
  | a :: l, acc, m, c, h, h1, h2 => by
    rw [List.cons_append]
    rw [wd] at h ⊢
    split at h
    · omega
    · rename_i hn
      rw [if_neg hn]
      exact wd_snoc l _ m c h h1 h2

theorem wd_dig (u : Nat) : wd 0 (decDigits u) = (u : Int) := by
  induction u using Nat.strongRecOn with
  | _ u ih =>
    rw [decDigits]
    split
    · have : (UInt8.ofNat (48 + u)).toNat = 48 + u := by rw [UInt8.toNat_ofNat']; omega
      rw [wd, this, if_neg (by omega), wd]; omega
    · have e : (UInt8.ofNat (48 + u % 10)).toNat = 48 + u % 10 := by rw [UInt8.toNat_ofNat']; omega
      rw [wd_snoc _ _ _ _ (ih (u / 10) (by omega)) (by omega) (by omega), e]; omega

theorem dig_head (u : Nat) : (decDigits u).head? = some 48 → u = 0 := by
  induction u using Nat.strongRecOn with
  | _ u ih =>
    intro h
    rw [decDigits] at h
    split at h
    · simp only [List.head?_cons, Option.some.injEq] at h
      have := congrArg UInt8.toNat h
      rw [UInt8.toNat_ofNat'] at this
      have e : (48 : UInt8).toNat = 48 := rfl
      omega
    · have hne := dig_ne (u / 10)
      have : (decDigits (u / 10)).head? = some 48 := by
        cases hd : decDigits (u / 10) with
        | nil => exact absurd hd hne
        | cons a r => rw [hd] at h; simpa using h
      have := ih (u / 10) (by omega) this
      omega

theorem whole_itoa {n : Int} (h0 : 0 ≤ n) (h : n ≤ 4294967295) : wholeP (itoa n) = n := by
  have hl := itoa_len h0 h
  unfold wholeP
  have hi : itoa n = decDigits n.toNat := by unfold itoa; rw [if_neg (by omega)]
  rw [hi] at hl ⊢
  rw [if_neg, wd_dig]
  · omega
  · rintro (e | e | ⟨e, e2⟩)
    · exact dig_ne _ (List.length_eq_zero_iff.1 e)
    · omega
    · have := dig_head _ e
      rw [this] at e2
      rw [decDigits] at e2
      simp at e2

theorem wd_neg : ∀ (l : List UInt8) (acc : Nat), wd acc l = -1 ∨ 0 ≤ wd acc l
  | [], acc => .inr (by rw [wd]; omega)
  | c :: l, acc => by
    rw [wd]
    split
    · exact .inl rfl
    · exact wd_neg l _

/-- Digits behind a number above nought are its digits with them behind. -/
theorem wd_back : ∀ (l : List UInt8) (acc m : Nat), 0 < acc → wd acc l = (m : Int) → decDigits m = decDigits acc ++ l
  | [], acc, m, h0, h => by
    have h : (acc : Int) = m := h
    obtain rfl : acc = m := by omega
    simp
  | c :: l, acc, m, h0, h => by
    rw [wd] at h
    split at h
    · omega
    · rename_i hn
      have := wd_back l _ m (by omega) h
      rw [this]
      have hs : decDigits (10 * acc + (c.toNat - 48)) = decDigits acc ++ [c] := by
        rw [decDigits, dif_neg (by omega)]
        have e1 : (10 * acc + (c.toNat - 48)) / 10 = acc := by omega
        have e2 : 48 + (10 * acc + (c.toNat - 48)) % 10 = c.toNat := by omega
        rw [e1, e2]
        simp
      rw [hs]; simp

theorem whole_back {s : List UInt8} (h : 0 ≤ wholeP s) : s = itoa (wholeP s) := by
  unfold wholeP at h ⊢
  split at h
  · omega
  · rename_i hn
    rw [if_neg hn]
    cases s with
    | nil => exact absurd (.inl rfl) hn
    | cons c l =>
      rw [wd] at h ⊢
      split at h
      · omega
      · rename_i hc
        rw [if_neg hc]
        obtain ⟨m, hm⟩ := Int.eq_ofNat_of_zero_le h
        rw [hm]
        have hi : itoa (m : Int) = decDigits m := by unfold itoa; rw [if_neg (by omega)]; rfl
        rw [hi]
        by_cases h48 : c.toNat = 48
        · have hc48 : c = 48 := by apply UInt8.toNat_inj.1; rw [h48]; rfl
          have hl : l = [] := by
            cases l with
            | nil => rfl
            | cons d r => exact absurd (.inr (.inr ⟨by simp [hc48], by simp⟩)) hn
          subst hl
          rw [hc48] at hm ⊢
          have hm : ((10 * 0 + ((48 : UInt8).toNat - 48) : Nat) : Int) = m := hm
          have e : (48 : UInt8).toNat = 48 := rfl
          rw [e] at hm
          obtain rfl : m = 0 := by omega
          rw [decDigits]; rfl
        · have hz : 10 * 0 + (c.toNat - 48) = c.toNat - 48 := by omega
          rw [hz] at hm
          rw [wd_back l _ m (by omega) hm]
          have hs : decDigits (c.toNat - 48) = [c] := by
            rw [decDigits, dif_pos (by omega)]
            have e2 : 48 + (c.toNat - 48) = c.toNat := by omega
            rw [e2]; simp
          rw [hs]; rfl

/-- The words with a blank between each two are the line. -/
def glue : List (List UInt8) → List UInt8
  | [] => []
  | [a] => a
  | a :: b :: r => a ++ 32 :: glue (b :: r)

theorem glue_cons (c : UInt8) : ∀ (h : List UInt8) (t : List (List UInt8)), glue ((c :: h) :: t) = c :: glue (h :: t)
  | h, [] => rfl
  | h, b :: r => rfl

theorem glue_sp : ∀ l, glue (sp l) = l
  | [] => rfl
  | c :: r => by
    have ih := glue_sp r
    unfold sp
    split
    · rename_i hc
      subst hc
      cases hs : sp r with
      | nil => exact absurd hs (sp_ne r)
      | cons a t => rw [hs] at ih; show [] ++ 32 :: glue (a :: t) = _; rw [ih]; rfl
    · split
      · rename_i hs; exact absurd hs (sp_ne r)
      · rename_i a t hs
        rw [hs] at ih
        rw [glue_cons, ih]

/-- What a word says at its place. -/
def valP (k : Int) (i : Nat) (w : List UInt8) : Int :=
  if k = 4 ∧ i = 2 then (if w = outB true then 1 else if w = outB false then 0 else -1) else wholeP w

/-- The numbers of these words, from that place on; none: one is none. -/
def valsP (k : Int) : Nat → List (List UInt8) → Option (List Int)
  | _, [] => some []
  | i, w :: r => if valP k i w < 0 then none else (valsP k (i + 1) r).map (valP k i w :: ·)

/-- The document's event of a line. -/
def docE (s : List UInt8) : Option Ev :=
  match flds (kindB ((sp s).headD [])) with
  | none => none
  | some fs => if (sp s).length = fs.length + 1 then
      match valsP (kindB ((sp s).headD [])) 0 (sp s).tail with
      | none => none
      | some ns => if fault (puts { Ev.zero with kind := kindB ((sp s).headD []) } fs ns) = 0 then some (puts { Ev.zero with kind := kindB ((sp s).headD []) } fs ns) else none
    else none

theorem kind_word {w : List UInt8} {k : Int} (h : kindB w = k) (hk : k ≠ 0) : w = wordB k := by
  unfold kindB at h
  repeat' split at h
  all_goals first | (subst h; assumption) | (subst h; exact absurd rfl hk)

theorem vals_one {k : Int} {i : Nat} {a : List UInt8} {ns : List Int} (h : valsP k i [a] = some ns) : 0 ≤ valP k i a ∧ ns = [valP k i a] := by
  unfold valsP at h
  split at h
  · cases h
  · simp only [valsP, Option.map_some, Option.some.injEq] at h
    exact ⟨by omega, h.symm⟩

theorem vals_cons {k : Int} {i : Nat} {a : List UInt8} {r : List (List UInt8)} {ns : List Int} (h : valsP k i (a :: r) = some ns) : 0 ≤ valP k i a ∧ ∃ ms, valsP k (i + 1) r = some ms ∧ ns = valP k i a :: ms := by
  rw [valsP] at h
  split at h
  · cases h
  · cases hv : valsP k (i + 1) r with
    | none => rw [hv] at h; cases h
    | some ms =>
      rw [hv] at h
      simp only [Option.map_some, Option.some.injEq] at h
      exact ⟨by omega, ms, rfl, h.symm⟩

theorem val_num {k : Int} {i : Nat} (h : ¬ (k = 4 ∧ i = 2)) (w : List UInt8) : valP k i w = wholeP w := if_neg h

theorem val_out {w : List UInt8} (h : 0 ≤ valP 4 2 w) : (valP 4 2 w = 1 ∧ w = outB true) ∨ (valP 4 2 w = 0 ∧ w = outB false) := by
  unfold valP at h ⊢
  rw [if_pos ⟨rfl, rfl⟩] at h ⊢
  split at h
  · rename_i e; exact .inl ⟨by rw [if_pos e], e⟩
  · rename_i e
    split at h
    · rename_i e2; exact .inr ⟨by rw [if_neg e, if_pos e2], e2⟩
    · omega

theorem flds_k {k : Int} {fs : List Fld} (h : flds k = some fs) : k = 1 ∨ k = 2 ∨ k = 3 ∨ k = 4 ∨ k = 5 ∨ k = 6 ∨ k = 7 := by
  rcases flds_cases k with ⟨_, e⟩ | e
  · rw [e] at h; cases h
  · exact e

theorem doc_sound {s : List UInt8} {e : Ev} (h : docE s = some e) : fault e = 0 ∧ lineN e = s := by
  unfold docE at h
  split at h
  · cases h
  · rename_i fs hf
    split at h
    · rename_i hlen
      split at h
      · cases h
      · rename_i ns hns
        split at h
        · rename_i h0
          cases h
          refine ⟨h0, ?_⟩
          have hg := glue_sp s
          have hne := sp_ne s
          generalize sp s = ws at *
          cases ws with
          | nil => exact absurd rfl hne
          | cons a r =>
            simp only [List.headD_cons, List.tail_cons] at *
            obtain ⟨k, hk⟩ : ∃ k, k = kindB a := ⟨_, rfl⟩
            rw [← hk] at hf hns h0 ⊢
            have hw := kind_word hk.symm (by rcases flds_k hf with rfl | rfl | rfl | rfl | rfl | rfl | rfl <;> decide)
            subst hw
            rcases flds_k hf with rfl | rfl | rfl | rfl | rfl | rfl | rfl
            · cases hf
              match r, hlen with
              | [a], _ =>
                obtain ⟨v1, rfl⟩ := vals_one hns
                rw [val_num (by decide)] at v1 ⊢
                rw [← hg]
                show wordB 1 ++ _ = wordB 1 ++ 32 :: a
                have := whole_back v1
                simp [puts, Ev.put, Ev.num, Ev.zero, ← this]
            · cases hf
              match r, hlen with
              | [a, b], _ =>
                obtain ⟨v1, _, hv, rfl⟩ := vals_cons hns
                obtain ⟨v2, rfl⟩ := vals_one hv
                rw [val_num (by decide)] at v1 v2 ⊢
                rw [val_num (by decide)]
                rw [← hg]
                show wordB 2 ++ _ ++ _ = wordB 2 ++ 32 :: (a ++ 32 :: b)
                have e1 := whole_back v1
                have e2 := whole_back v2
                simp [offs, puts, Ev.put, Ev.num, Ev.zero, ← e1, ← e2]
            · cases hf
              match r, hlen with
              | [a, b], _ =>
                obtain ⟨v1, _, hv, rfl⟩ := vals_cons hns
                obtain ⟨v2, rfl⟩ := vals_one hv
                rw [val_num (by decide)] at v1 v2 ⊢
                rw [val_num (by decide)]
                rw [← hg]
                show wordB 3 ++ _ ++ _ = wordB 3 ++ 32 :: (a ++ 32 :: b)
                have e1 := whole_back v1
                have e2 := whole_back v2
                simp [offs, puts, Ev.put, Ev.num, Ev.zero, ← e1, ← e2]
            · cases hf
              match r, hlen with
              | [a, b, c], _ =>
                obtain ⟨v1, _, hv, rfl⟩ := vals_cons hns
                obtain ⟨v2, _, hv2, rfl⟩ := vals_cons hv
                obtain ⟨v3, rfl⟩ := vals_one hv2
                rw [val_num (by decide)] at v1 v2 ⊢
                rw [val_num (by decide)]
                rw [← hg]
                show wordB 4 ++ _ ++ _ = wordB 4 ++ 32 :: (a ++ 32 :: (b ++ 32 :: c))
                have e1 := whole_back v1
                have e2 := whole_back v2
                rcases val_out v3 with ⟨e3, e4⟩ | ⟨e3, e4⟩
                all_goals
                  rw [e3, e4]
                  simp [offs, puts, Ev.put, Ev.num, Ev.zero, ← e1, ← e2]
            · cases hf
              match r, hlen with
              | [a, b, c], _ =>
                obtain ⟨v1, _, hv, rfl⟩ := vals_cons hns
                obtain ⟨v2, _, hv2, rfl⟩ := vals_cons hv
                obtain ⟨v3, rfl⟩ := vals_one hv2
                rw [val_num (by decide)] at v1 v2 v3 ⊢
                rw [val_num (by decide), val_num (by decide)]
                rw [← hg]
                show wordB 5 ++ _ ++ _ = wordB 5 ++ 32 :: (a ++ 32 :: (b ++ 32 :: c))
                have e1 := whole_back v1
                have e2 := whole_back v2
                have e3 := whole_back v3
                simp [offs, puts, Ev.put, Ev.num, Ev.zero, ← e1, ← e2, ← e3]
            · cases hf
              match r, hlen with
              | [a, b], _ =>
                obtain ⟨v1, _, hv, rfl⟩ := vals_cons hns
                obtain ⟨v2, rfl⟩ := vals_one hv
                rw [val_num (by decide)] at v1 v2 ⊢
                rw [val_num (by decide)]
                rw [← hg]
                show wordB 6 ++ _ ++ _ = wordB 6 ++ 32 :: (a ++ 32 :: b)
                have e1 := whole_back v1
                have e2 := whole_back v2
                simp [offs, puts, Ev.put, Ev.num, Ev.zero, ← e1, ← e2]
            · cases hf
              match r, hlen with
              | [], _ =>
                rw [← hg]
                show wordB 7 ++ _ ++ _ = wordB 7
                cases hns
                simp [offs, puts, Ev.zero]
        · cases h
    · cases h

theorem vals_num {k : Int} {i : Nat} {w : List UInt8} {r : List (List UInt8)} (h : 0 ≤ valP k i w) : valsP k i (w :: r) = (valsP k (i + 1) r).map (valP k i w :: ·) := by
  rw [valsP, if_neg (by omega)]

theorem val_itoa {k : Int} {i : Nat} (hk : ¬ (k = 4 ∧ i = 2)) {n : Int} (h0 : 0 ≤ n) (h1 : n ≤ 4294967295) : valP k i (itoa n) = n := by rw [val_num hk, whole_itoa h0 h1]

theorem doc_line {e : Ev} (h : fault e = 0) : docE (lineN e) = some e := by
  have hfe := h
  unfold docE
  rcases may_cases h with ⟨n, h0, h1, rfl⟩ | ⟨k, s, g, hk, h0, h1, h2, h3, rfl⟩ | ⟨s, g, b, h0, h1, h2, h3, rfl⟩ | ⟨r, b, w, h0, h1, h2, h3, h4, h5, rfl⟩ | ⟨r, b, h0, h1, h2, h3, rfl⟩ | rfl
  · have e1 : sp (lineN ⟨1, n, 0, 0, false, 0, 0, 0⟩) = [wordB 1, itoa n] := by
      simp only [lineN, offs, Ev.num]; simp
      rw [sp_cut _ _ (no32_word 1), sp_one _ (itoa_no32 h0)]
    rw [e1]
    have v1 := val_itoa (k := 1) (i := 0) (by decide) h0 h1
    have hv : valsP 1 0 [itoa n] = some [n] := by rw [vals_num (by rw [v1]; omega), v1]; rfl
    have hkb : kindB (wordB 1) = 1 := by decide
    have hfl : flds 1 = some [⟨1, 0, 4294967295⟩] := rfl
    simp only [List.headD_cons, List.tail_cons, hkb, hfl, hv]
    rw [if_pos (by rfl)]
    simp only [puts, Ev.put, Ev.zero]
    exact if_pos hfe
  · have e1 : sp (lineN ⟨k, 0, s, g, false, 0, 0, 0⟩) = [wordB k, itoa s, itoa g] := by
      rcases hk with rfl | rfl
      all_goals
        simp only [lineN, offs, Ev.num]; simp
        rw [sp_cut _ _ (no32_word _), sp_cut _ _ (itoa_no32 h0), sp_one _ (itoa_no32 h2)]
    rw [e1]
    have v1 := val_itoa (k := k) (i := 0) (by omega) h0 (by omega)
    have v2 := val_itoa (k := k) (i := 1) (by omega) h2 (by omega)
    have hv : valsP k 0 [itoa s, itoa g] = some [s, g] := by rw [vals_num (by rw [v1]; omega), v1, vals_num (by rw [v2]; omega), v2]; rfl
    have hkb : kindB (wordB k) = k := by rcases hk with rfl | rfl <;> decide
    have hfl : flds k = some [⟨2, 0, 39⟩, ⟨3, 0, 1048576⟩] := by rcases hk with rfl | rfl <;> rfl
    simp only [List.headD_cons, List.tail_cons, hkb, hfl, hv]
    rw [if_pos (by rfl)]
    simp only [puts, Ev.put, Ev.zero]
    exact if_pos hfe
  · have e1 : sp (lineN ⟨4, 0, s, g, b, 0, 0, 0⟩) = [wordB 4, itoa s, itoa g, outB b] := by
      simp only [lineN, offs, Ev.num]; simp
      rw [sp_cut _ _ (no32_word _), sp_cut _ _ (itoa_no32 h0), sp_cut _ _ (itoa_no32 h2), sp_one _ (no32_out b)]
    rw [e1]
    have v1 := val_itoa (k := 4) (i := 0) (by omega) h0 (by omega)
    have v2 := val_itoa (k := 4) (i := 1) (by omega) h2 (by omega)
    have v3 : valP 4 2 (outB b) = if b then 1 else 0 := by cases b <;> decide
    have hv : valsP 4 0 [itoa s, itoa g, outB b] = some [s, g, if b then 1 else 0] := by rw [vals_num (by rw [v1]; omega), v1, vals_num (by rw [v2]; omega), v2, vals_num (by rw [v3]; split <;> decide), v3]; rfl
    have hkb : kindB (wordB 4) = 4 := by decide
    have hfl : flds 4 = some [⟨2, 0, 39⟩, ⟨3, 0, 1048576⟩, ⟨4, 0, 1⟩] := rfl
    simp only [List.headD_cons, List.tail_cons, hkb, hfl, hv]
    rw [if_pos (by rfl)]
    have hp : puts { Ev.zero with kind := 4 } [⟨2, 0, 39⟩, ⟨3, 0, 1048576⟩, ⟨4, 0, 1⟩] [s, g, if b then 1 else 0] = ⟨4, 0, s, g, b, 0, 0, 0⟩ := by cases b <;> rfl
    rw [hp]
    exact if_pos hfe
  · have e1 : sp (lineN ⟨5, 0, 0, 0, false, r, b, w⟩) = [wordB 5, itoa r, itoa b, itoa w] := by
      simp only [lineN, offs, Ev.num]; simp
      rw [sp_cut _ _ (no32_word _), sp_cut _ _ (itoa_no32 h0), sp_cut _ _ (itoa_no32 h2), sp_one _ (itoa_no32 (by omega : 0 ≤ w))]
    rw [e1]
    have v1 := val_itoa (k := 5) (i := 0) (by omega) h0 (by omega)
    have v2 := val_itoa (k := 5) (i := 1) (by omega) h2 (by omega)
    have v3 := val_itoa (k := 5) (i := 2) (by omega) (by omega : 0 ≤ w) (by omega)
    have hv : valsP 5 0 [itoa r, itoa b, itoa w] = some [r, b, w] := by rw [vals_num (by rw [v1]; omega), v1, vals_num (by rw [v2]; omega), v2, vals_num (by rw [v3]; omega), v3]; rfl
    have hkb : kindB (wordB 5) = 5 := by decide
    have hfl : flds 5 = some [⟨5, 0, 1048576⟩, ⟨6, 0, 11⟩, ⟨7, 1, 8⟩] := rfl
    simp only [List.headD_cons, List.tail_cons, hkb, hfl, hv]
    rw [if_pos (by rfl)]
    simp only [puts, Ev.put, Ev.zero]
    exact if_pos hfe
  · have e1 : sp (lineN ⟨6, 0, 0, 0, false, r, b, 0⟩) = [wordB 6, itoa r, itoa b] := by
      simp only [lineN, offs, Ev.num]; simp
      rw [sp_cut _ _ (no32_word _), sp_cut _ _ (itoa_no32 h0), sp_one _ (itoa_no32 h2)]
    rw [e1]
    have v1 := val_itoa (k := 6) (i := 0) (by omega) h0 (by omega)
    have v2 := val_itoa (k := 6) (i := 1) (by omega) h2 (by omega)
    have hv : valsP 6 0 [itoa r, itoa b] = some [r, b] := by rw [vals_num (by rw [v1]; omega), v1, vals_num (by rw [v2]; omega), v2]; rfl
    have hkb : kindB (wordB 6) = 6 := by decide
    have hfl : flds 6 = some [⟨5, 0, 1048576⟩, ⟨6, 0, 11⟩] := rfl
    simp only [List.headD_cons, List.tail_cons, hkb, hfl, hv]
    rw [if_pos (by rfl)]
    simp only [puts, Ev.put, Ev.zero]
    exact if_pos hfe
  · have e1 : sp (lineN ⟨7, 0, 0, 0, false, 0, 0, 0⟩) = [wordB 7] := by
      simp only [lineN, offs, Ev.num]; simp
      rw [sp_one _ (no32_word _)]
    rw [e1]
    have hkb : kindB (wordB 7) = 7 := by decide
    have hfl : flds 7 = some [] := rfl
    simp only [List.headD_cons, List.tail_cons, hkb, hfl, valsP]
    rw [if_pos (by rfl)]
    simp only [puts, Ev.zero]
    exact if_pos hfe

/-- The document reads a line as the program does. -/
theorem doc_is (s : List UInt8) : docE s = evP (s ++ [10]) := by
  cases h : evP (s ++ [10]) with
  | some e =>
    obtain ⟨h1, h2⟩ := (evP_iff _ _).1 h
    have : lineN e = s := by unfold lineB at h2; exact List.append_cancel_right h2
    rw [← this]
    exact doc_line h1
  | none =>
    cases h3 : docE s with
    | none => rfl
    | some e =>
      obtain ⟨h1, h2⟩ := doc_sound h3
      have := (evP_iff (s ++ [10]) e).2 ⟨h1, by unfold lineB; rw [h2]⟩
      rw [h] at this
      cases this

/-- A line without a line feed at its end is read as none. -/
theorem evP_feed {l : List UInt8} (h : (10 : UInt8) ∉ l) : evP l = none := by
  cases h2 : evP l with
  | none => rfl
  | some e =>
    obtain ⟨_, h3⟩ := (evP_iff _ _).1 h2
    exact absurd (by rw [← h3]; unfold lineB; simp) h

end Go.Proofs.YtkefdbnnfcfmjaaDoor.Plain
