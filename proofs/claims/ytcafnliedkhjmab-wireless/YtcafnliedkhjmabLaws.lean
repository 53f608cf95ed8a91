/-
  In plain mathematics: what is encoded is decoded, a torn event is none, nor is one with something behind it, and no event has two forms. Condition: the bytes are bytes.
-/
import Derived.Test.YtcafnliedkhjmabRows
import Derived.Test.YtcafnliedkhjmabChecked
import Derived.Test.YtcafnliedkhjmabDecode
import Derived.Deep.QuietTactic
import Derived.BigQuiet
import Derived.WalkKit
import Derived.ProofKit
import Derived.Handy
import Derived.LoopTactic
import Derived.Below
import Derived.Laws.BitsAllLaws
import Derived.RegionTactic
import Derived.Deep.RegionHeld3
import Derived.Deep.DrawnRows
import Derived.Deep.AppendLies
import Derived.Laws.OwnMore
import Derived.Deep.Onto
namespace Go.Proofs.Ytcafnliedkhjmab.Walks
open Go.RowKit
open Go.Proofs.Ytcafnliedkhjmab.Plain
set_option linter.unusedVariables false
attribute [local go_sem ↓] Go.wp_at_zero Go.wp_at_succ


theorem take_getD' (l : List Nat) (a i : Nat) (h : i < a) : (l.take a).getD i 0 = l.getD i 0 := by simp [List.getD, List.getElem?_take_of_lt h]

/-- What a number's bytes look like. -/
theorem enc_spec : ∀ (f n : Nat), n < f → ∃ k, (enc n).length = k + 1 ∧ (∀ j, j < k → 128 ≤ (enc n).getD j 0 ∧ (enc n).getD j 0 < 256) ∧ (enc n).getD k 0 < 128 ∧ (0 < k → (enc n).getD k 0 ≠ 0) ∧ val (enc n) = n
  | 0, n, h => by omega
  | f + 1, n, h => by
    by_cases h1 : n < 128
    · refine ⟨0, by rw [enc_small n h1]; rfl, fun j hj => by omega, by rw [enc_small n h1]; exact h1, fun hh => by omega, by rw [enc_small n h1]; simp [val]; omega⟩
    · obtain ⟨k, k1, k2, k3, k4, k5⟩ := enc_spec f (n / 128) (by omega)
      have he := enc_great n h1
      refine ⟨k + 1, by rw [he, List.length_cons, k1], fun j hj => ?_, by rw [he]; simpa using k3, fun _ => ?_, ?_⟩
      · rw [he]
        cases j with
        | zero => simp; omega
        | succ j => simpa using k2 j (by omega)
      · rw [he]
        have : (enc (n / 128)).getD k 0 ≠ 0 := by
          by_cases hk : 0 < k
          · exact k4 hk
          · have hk0 : k = 0 := by omega
            subst hk0
            intro hz
            have hl : enc (n / 128) = [(enc (n / 128)).getD 0 0] := by
              match hq : enc (n / 128), k1 with
              | [y], _ => rfl
            rw [hz] at hl
            rw [hl] at k5
            simp [val] at k5
            omega
        simpa using this
      · rw [he, val, k5]; omega

theorem rd_enc (n : Nat) (t : List Nat) (hn : n ≤ 4294967295) : rd (enc n ++ t) = .inr (n, (enc n).length) := by
  obtain ⟨k, k1, k2, k3, k4, k5⟩ := enc_spec (n + 1) n (by omega)
  have hl5 := enc_len5 n hn
  have hg : ∀ j, j < k + 1 → (enc n ++ t).getD j 0 = (enc n).getD j 0 := fun j hj => by simp [List.getD, List.getElem?_append_left (show j < (enc n).length by omega)]
  rw [rd_good (enc n ++ t) k (by rw [List.length_append]; omega) (fun j hj => by rw [hg j (by omega)]; exact (k2 j hj).1) (by rw [hg k (by omega)]; exact k3) (by rw [hg k (by omega)]; intro ⟨a, b⟩; exact k4 b a) (by omega), k1]
  congr 2
  rw [← k1, List.take_left, k5]

theorem rd_enc_torn (n j : Nat) (hn : n ≤ 4294967295) (hj : j < (enc n).length) : rd ((enc n).take j) = .inl 4 := by
  obtain ⟨k, k1, k2, k3, k4, k5⟩ := enc_spec (n + 1) n (by omega)
  have hl5 := enc_len5 n hn
  have hlen : ((enc n).take j).length = j := by rw [List.length_take]; omega
  refine rd_short _ (by omega) (fun i hi => ?_)
  rw [hlen] at hi
  rw [take_getD' _ _ _ hi]
  exact (k2 i (by omega)).1

def flat (e : Ev) (fs : List Fld) : List Nat := fs.flatMap (fun f => enc (e.num f.off).toNat)

theorem fill_flat (e : Ev) (t : List Nat) : ∀ (fs : List Fld) (e0 : Ev), (∀ f, f ∈ fs → e.within f = true ∧ 0 ≤ f.lo ∧ f.hi ≤ 4294967295) → fill fs (flat e fs ++ t) e0 = fill [] t (puts e0 fs (e.nums fs))
  | [], e0, _ => by simp [flat, puts]
  | f :: fs, e0, h => by
    obtain ⟨hw, hlo, hhi⟩ := h f (List.mem_cons_self ..)
    simp only [Ev.within, decide_eq_true_eq] at hw
    have hc : ((e.num f.off).toNat : Int) = e.num f.off := by omega
    have hr := rd_enc (e.num f.off).toNat (flat e fs ++ t) (by omega)
    have hfl : flat e (f :: fs) ++ t = enc (e.num f.off).toNat ++ (flat e fs ++ t) := by simp [flat]
    rw [hfl, fill_in f fs _ e0 _ _ hr (by omega), List.drop_left, fill_flat e t fs _ (fun g hg => h g (List.mem_cons_of_mem _ hg)), hc]
    rfl

theorem fill_torn (e : Ev) : ∀ (fs : List Fld) (e0 : Ev) (j : Nat), (∀ f, f ∈ fs → e.within f = true ∧ 0 ≤ f.lo ∧ f.hi ≤ 4294967295) → j < (flat e fs).length → (fill fs ((flat e fs).take j) e0).2 = 4
  | [], e0, j, _, hj => by simp [flat] at hj
  | f :: fs, e0, j, h, hj => by
    obtain ⟨hw, hlo, hhi⟩ := h f (List.mem_cons_self ..)
    simp only [Ev.within, decide_eq_true_eq] at hw
    have hc : ((e.num f.off).toNat : Int) = e.num f.off := by omega
    have hfl : flat e (f :: fs) = enc (e.num f.off).toNat ++ flat e fs := by simp [flat]
    rw [hfl] at hj ⊢
    rw [List.length_append] at hj
    by_cases hjn : j < (enc (e.num f.off).toNat).length
    · rw [List.take_append_of_le_length (by omega), fill_bad f fs _ e0 4 (rd_enc_torn _ j (by omega) hjn)]
    · rw [List.take_append, List.take_of_length_le (by omega)]
      have hr := rd_enc (e.num f.off).toNat ((flat e fs).take (j - (enc (e.num f.off).toNat).length)) (by omega)
      rw [fill_in f fs _ e0 _ _ hr (by omega), List.drop_left]
      exact fill_torn e fs _ _ (fun g hg => h g (List.mem_cons_of_mem _ hg)) (by omega)

/-- What is known of an event without fault. -/
theorem ok_parts {e : Ev} (h : fault e = 0) : ∃ fs, flds e.kind = some fs ∧ (∀ f, f ∈ fs → e.within f = true ∧ 0 ≤ f.lo ∧ f.hi ≤ 4294967295) ∧ puts { Ev.zero with kind := e.kind } fs (e.nums fs) = e ∧ encEv e = e.kind.toNat :: flat e fs ∧ 1 ≤ e.kind ∧ e.kind ≤ 7 ∧ (flat e fs).length ≤ 15 := by
  obtain ⟨fs, hf, hall, hcl⟩ := fault_ok h
  have hb := flds_bounds hf
  refine ⟨fs, hf, fun f hm => ⟨List.all_eq_true.1 hall f hm, hb.2 f hm⟩, ?_, by simp [encEv, flat, hf], hb.1.1, hb.1.2, ?_⟩
  · have := puts_clean e fs hf hall
    rw [hcl] at this
    exact of_decide_eq_true this
  · have h1 := flat_len e fs (within_bounds hf hall)
    have h2 := flds_len hf
    unfold flat; omega

theorem kind_cast {e : Ev} (h1 : 1 ≤ e.kind) : ((e.kind.toNat : Nat) : Int) = e.kind := by omega

theorem dec_back {e : Ev} (h : fault e = 0) : dec (encEv e) = (e, 0) := by
  obtain ⟨fs, hf, hw, hp, he, hk1, hk7, hl⟩ := ok_parts h
  rw [he, dec_some _ _ fs (by rw [List.length_cons]; omega) (by rw [kind_cast hk1]; exact hf), kind_cast hk1]
  have := fill_flat e [] fs { Ev.zero with kind := e.kind } hw
  rw [List.append_nil] at this
  rw [this, hp, fill_nil_nil]

theorem dec_torn {e : Ev} (h : fault e = 0) (j : Nat) (hj : j < (encEv e).length) : (dec ((encEv e).take j)).2 = 4 := by
  obtain ⟨fs, hf, hw, hp, he, hk1, hk7, hl⟩ := ok_parts h
  rw [he] at hj ⊢
  cases j with
  | zero => rfl
  | succ j =>
    rw [List.take_succ_cons, dec_some _ _ fs (by rw [List.length_cons, List.length_take]; omega) (by rw [kind_cast hk1]; exact hf)]
    exact fill_torn e fs _ j hw (by simpa using hj)

theorem dec_tail {e : Ev} (h : fault e = 0) (x : Nat) : dec (encEv e ++ [x]) = (Ev.zero, 3) := by
  obtain ⟨fs, hf, hw, hp, he, hk1, hk7, hl⟩ := ok_parts h
  rw [he, List.cons_append, dec_some _ _ fs (by rw [List.length_cons, List.length_append]; simp; omega) (by rw [kind_cast hk1]; exact hf), fill_flat e [x] fs _ hw, fill_nil_cons]

theorem enc_len {e : Ev} (h : fault e = 0) : 1 ≤ (encEv e).length ∧ (encEv e).length ≤ 16 := by
  obtain ⟨fs, hf, hw, hp, he, hk1, hk7, hl⟩ := ok_parts h
  rw [he, List.length_cons]; omega

/-- Bytes that are a number's only form. -/
theorem enc_val : ∀ (X : List Nat) (k : Nat), X.length = k + 1 → (∀ j, j < k → 128 ≤ X.getD j 0 ∧ X.getD j 0 < 256) → X.getD k 0 < 128 → (0 < k → X.getD k 0 ≠ 0) → enc (val X) = X ∧ (0 < k → 128 ≤ val X) ∧ (X.getD k 0 ≠ 0 → 0 < val X)
  | [], k, h, _, _, _ => by simp at h
  | [x], k, h, h1, h2, h3 => by
    have hk : k = 0 := by simpa using h.symm
    subst hk
    have hx : x < 128 := by simpa using h2
    have hv : val [x] = x := by simp [val]; omega
    rw [hv]
    exact ⟨enc_small x hx, fun hh => by omega, fun hh => by simp at hh; omega⟩
  | x :: y :: t, k, h, h1, h2, h3 => by
    obtain ⟨k, rfl⟩ : ∃ k', k = k' + 1 := ⟨k - 1, by simp at h; omega⟩
    have hx := h1 0 (by omega)
    simp at hx
    have hlast : (y :: t).getD k 0 ≠ 0 := by simpa using h3 (by omega)
    obtain ⟨e1, e2, e3⟩ := enc_val (y :: t) k (by simpa using h) (fun j hj => by simpa using h1 (j + 1) (by omega)) (by simpa using h2) (fun _ => hlast)
    have hp := e3 hlast
    have hv : val (x :: y :: t) = x % 128 + 128 * val (y :: t) := rfl
    refine ⟨?_, fun _ => by omega, fun _ => by omega⟩
    rw [hv, enc_great _ (by omega), show (x % 128 + 128 * val (y :: t)) % 128 + 128 = x by omega, show (x % 128 + 128 * val (y :: t)) / 128 = val (y :: t) by omega, e1]

theorem lead_spec : ∀ (f : Nat) (l : List Nat), lead f l ≤ f ∧ lead f l ≤ l.length ∧ (∀ j, j < lead f l → 128 ≤ l.getD j 0) ∧ (lead f l < f → lead f l < l.length → l.getD (lead f l) 0 < 128)
  | 0, l => by simp [lead]
  | f + 1, [] => by simp [lead]
  | f + 1, x :: t => by
    unfold lead
    split
    · rename_i hx
      obtain ⟨h1, h2, h3, h4⟩ := lead_spec f t
      refine ⟨by omega, by simp; omega, fun j hj => ?_, fun ha hb => ?_⟩
      · cases j with
        | zero => simpa using hx
        | succ j => simpa using h3 j (by omega)
      · simpa using h4 (by omega) (by simpa using hb)
    · rename_i hx
      exact ⟨by omega, by omega, fun j hj => by omega, fun _ _ => by simp; omega⟩

theorem rd_only {l : List Nat} {n s : Nat} (hb : ∀ x ∈ l, x < 256) (h : rd l = .inr (n, s)) : l = enc n ++ l.drop s := by
  obtain ⟨h1, h2, h3, h4⟩ := lead_spec 6 l
  unfold rd at h
  generalize lead 6 l = m at *
  split at h
  · cases h
  · split at h
    · cases h
    · split at h
      · cases h
      · rename_i n1 n2 n3
        cases h
        have hml : m < l.length := by omega
        have hm6 : m < 6 := by omega
        have hg : ∀ j, j < m + 1 → (l.take (m + 1)).getD j 0 = l.getD j 0 := fun j hj => take_getD' _ _ _ hj
        have hb' : ∀ j, j < l.length → l.getD j 0 < 256 := fun j hj => by rw [getD_at l j hj]; exact hb _ (List.getElem_mem hj)
        obtain ⟨e1, _, _⟩ := enc_val (l.take (m + 1)) m (by rw [List.length_take]; omega) (fun j hj => by rw [hg j (by omega)]; exact ⟨h3 j hj, hb' j (by omega)⟩) (by rw [hg m (by omega)]; exact h4 hm6 hml) (fun hm hz => by rw [hg m (by omega)] at hz; exact n3 ⟨hz, hm⟩)
        rw [e1, List.take_append_drop]

def good : List Fld → List Nat → Prop
  | [], [] => True
  | f :: fs, n :: ns => (f.lo ≤ (n : Int) ∧ (n : Int) ≤ f.hi) ∧ good fs ns
  | _, _ => False

theorem fill_only : ∀ (fs : List Fld) (l : List Nat) (e0 e : Ev), (∀ x ∈ l, x < 256) → fill fs l e0 = (e, 0) → ∃ ns : List Nat, good fs ns ∧ l = ns.flatMap enc ∧ e = puts e0 fs (ns.map fun (n : Nat) => (n : Int))
  | [], [], e0, e, _, h => by rw [fill_nil_nil] at h; cases h; exact ⟨[], trivial, rfl, rfl⟩
  | [], x :: t, e0, e, _, h => by rw [fill_nil_cons] at h; cases h
  | f :: fs, l, e0, e, hb, h => by
    cases hrd : rd l with
    | inl c => rw [fill_bad _ _ _ _ _ hrd] at h; cases h; exact absurd rfl (rd_bad_ne hrd)
    | inr q =>
      obtain ⟨n, s⟩ := q
      by_cases hin : f.lo ≤ (n : Int) ∧ (n : Int) ≤ f.hi
      · rw [fill_in _ _ _ _ _ _ hrd hin] at h
        obtain ⟨ns, g1, g2, g3⟩ := fill_only fs (l.drop s) _ e (fun x hx => hb x (List.mem_of_mem_drop hx)) h
        refine ⟨n :: ns, ⟨hin, g1⟩, ?_, by rw [g3]; rfl⟩
        rw [List.flatMap_cons, ← g2]
        exact rd_only hb hrd
      · rw [fill_out _ _ _ _ _ _ hrd hin] at h; cases h

theorem good1 {f : Fld} {ns : List Nat} (h : good [f] ns) : ∃ a : Nat, ns = [a] ∧ f.lo ≤ (a : Int) ∧ (a : Int) ≤ f.hi := by
  match ns, h with
  | [a], h => exact ⟨a, rfl, h.1⟩
theorem good2 {f g : Fld} {ns : List Nat} (h : good [f, g] ns) : ∃ a b : Nat, ns = [a, b] ∧ (f.lo ≤ (a : Int) ∧ (a : Int) ≤ f.hi) ∧ g.lo ≤ (b : Int) ∧ (b : Int) ≤ g.hi := by
  match ns, h with
  | [a, b], h => exact ⟨a, b, rfl, h.1, h.2.1⟩
theorem good3 {f g i : Fld} {ns : List Nat} (h : good [f, g, i] ns) : ∃ a b c : Nat, ns = [a, b, c] ∧ (f.lo ≤ (a : Int) ∧ (a : Int) ≤ f.hi) ∧ (g.lo ≤ (b : Int) ∧ (b : Int) ≤ g.hi) ∧ i.lo ≤ (c : Int) ∧ (c : Int) ≤ i.hi := by
  match ns, h with
  | [a, b, c], h => exact ⟨a, b, c, rfl, h.1, h.2.1, h.2.2.1⟩

theorem made_ok (k : Nat) (fs : List Fld) (ns : List Nat) (hf : flds k = some fs) (hg : good fs ns) :
    fault (puts { Ev.zero with kind := (k : Int) } fs (ns.map fun (n : Nat) => (n : Int))) = 0 ∧ encEv (puts { Ev.zero with kind := (k : Int) } fs (ns.map fun (n : Nat) => (n : Int))) = k :: ns.flatMap enc := by
  rcases flds_cases (k : Int) with ⟨_, h⟩ | h | h | h | h | h | h | h
  · rw [h] at hf; cases hf
  · obtain rfl : k = 1 := by omega
    unfold flds at hf; simp at hf; subst hf
    obtain ⟨a, rfl, h1, h2⟩ := good1 hg
    simp at h1 h2
    constructor <;> simp [puts, Ev.put, Ev.zero, fault, flds, Ev.within, Ev.num, Ev.clean, Ev.clear, encEv, h2]
  · obtain rfl : k = 2 := by omega
    unfold flds at hf; simp at hf; subst hf
    obtain ⟨a, b, rfl, ⟨h1, h2⟩, h3, h4⟩ := good2 hg
    simp at h1 h2 h3 h4
    constructor <;> simp [puts, Ev.put, Ev.zero, fault, flds, Ev.within, Ev.num, Ev.clean, Ev.clear, encEv, h2, h4]
  · obtain rfl : k = 3 := by omega
    unfold flds at hf; simp at hf; subst hf
    obtain ⟨a, b, rfl, ⟨h1, h2⟩, h3, h4⟩ := good2 hg
    simp at h1 h2 h3 h4
    constructor <;> simp [puts, Ev.put, Ev.zero, fault, flds, Ev.within, Ev.num, Ev.clean, Ev.clear, encEv, h2, h4]
  · obtain rfl : k = 4 := by omega
    unfold flds at hf; simp at hf; subst hf
    obtain ⟨a, b, c, rfl, ⟨h1, h2⟩, ⟨h3, h4⟩, h5, h6⟩ := good3 hg
    simp at h1 h2 h3 h4 h5 h6
    obtain rfl | rfl : c = 0 ∨ c = 1 := by omega
    all_goals (constructor <;> simp [puts, Ev.put, Ev.zero, fault, flds, Ev.within, Ev.num, Ev.clean, Ev.clear, encEv, h2, h4])
  · obtain rfl : k = 5 := by omega
    unfold flds at hf; simp at hf; subst hf
    obtain ⟨a, b, c, rfl, ⟨h1, h2⟩, ⟨h3, h4⟩, h5, h6⟩ := good3 hg
    simp at h1 h2 h3 h4 h5 h6
    constructor <;> simp [puts, Ev.put, Ev.zero, fault, flds, Ev.within, Ev.num, Ev.clean, Ev.clear, encEv, h2, h4, h5, h6]
  · obtain rfl : k = 6 := by omega
    unfold flds at hf; simp at hf; subst hf
    obtain ⟨a, b, rfl, ⟨h1, h2⟩, h3, h4⟩ := good2 hg
    simp at h1 h2 h3 h4
    constructor <;> simp [puts, Ev.put, Ev.zero, fault, flds, Ev.within, Ev.num, Ev.clean, Ev.clear, encEv, h2, h4]
  · obtain rfl : k = 7 := by omega
    unfold flds at hf; simp at hf; subst hf
    match ns, hg with
    | [], _ => constructor <;> simp [puts, Ev.zero, fault, flds, Ev.clean, Ev.clear, encEv]

theorem dec_only {l : List Nat} {e : Ev} (hb : ∀ x ∈ l, x < 256) (h : dec l = (e, 0)) : fault e = 0 ∧ encEv e = l := by
  by_cases h64 : 64 < l.length
  · rw [dec_long l h64] at h; cases h
  · cases l with
    | nil => rw [dec_nil] at h; cases h
    | cons k t =>
      cases hk : flds (k : Int) with
      | none => rw [dec_kind k t h64 hk] at h; cases h
      | some fs =>
        rw [dec_some k t fs h64 hk] at h
        obtain ⟨ns, g1, g2, rfl⟩ := fill_only fs t _ e (fun x hx => hb x (List.mem_cons_of_mem _ hx)) h
        have := made_ok k fs ns hk g1
        rw [← g2] at this
        exact this

theorem dec_zero {l : List Nat} (h : (dec l).2 ≠ 0) : (dec l).1 = Ev.zero := by
  by_cases h64 : 64 < l.length
  · rw [dec_long l h64]
  · cases l with
    | nil => rw [dec_nil]
    | cons k t =>
      cases hk : flds (k : Int) with
      | none => rw [dec_kind k t h64 hk]
      | some fs => rw [dec_some k t fs h64 hk] at h ⊢; exact fill_zero _ _ _ h
end Go.Proofs.Ytcafnliedkhjmab.Walks
