/-
  The plain mathematics of the mix of bytes: a step loses nothing, so lists that differ at one place alone are mixed apart. No condition but the numbers' own bounds.
-/
import Derived.Test.YtpmobbbohchdlabBase
import Derived.WalkKit
import Derived.ProofKit
import Derived.Handy
import Derived.LoopTactic
import Derived.Below
import Derived.Laws.BitsAllLaws
import Derived.RegionTactic
import Derived.Deep.RegionHeld3
import Derived.Deep.DrawnRows
import Derived.Deep.AppendLies
import Derived.Laws.OwnMore
import Derived.Deep.Onto
import Derived.Deep.QuietTactic
import Derived.BigQuiet
namespace Go.Proofs.Ytpmobbbohchdlab.Walks
open Go.RowKit
set_option linter.unusedVariables false
set_option linter.unusedSimpArgs false
attribute [local go_sem ↓] Go.wp_at_zero Go.wp_at_succ

theorem fold_take (f : Nat → Nat → Nat) (s : Nat) (l : List Nat) (k : Nat) (hk : k < l.length) : (l.take (k + 1)).foldl f s = f ((l.take k).foldl f s) (l.getD k 0) := by
  rw [List.take_add_one, List.foldl_append, List.getElem?_eq_getElem hk, List.getD_eq_getElem?_getD, List.getElem?_eq_getElem hk]
  simp only [Option.toList_some, List.foldl_cons, List.foldl_nil, Option.getD_some]
theorem fold_lt (f : Nat → Nat → Nat) (s N : Nat) (hs : s < N) (hf : ∀ h c, f h c < N) (l : List Nat) : l.foldl f s < N := by
  induction l generalizing s with
  | nil => exact hs
  | cons c l ih => exact ih _ (hf _ _)
theorem fold_left (f : Nat → Nat → Nat) (N : Nat) (hf : ∀ h c, f h c < N) (hi : ∀ h k c, h < N → k < N → c < N → f h c = f k c → h = k) (l : List Nat) (h k : Nat) (hh : h < N) (hk : k < N) (hl : ∀ c ∈ l, c < N) (e : l.foldl f h = l.foldl f k) : h = k := by
  induction l generalizing h k with
  | nil => exact e
  | cons c l ih => exact hi h k c hh hk (hl c (by simp)) (ih _ _ (hf _ _) (hf _ _) (fun x hx => hl x (by simp [hx])) e)
theorem fold_apart (f : Nat → Nat → Nat) (s N : Nat) (hs : s < N) (hf : ∀ h c, f h c < N) (hi : ∀ h k c, h < N → k < N → c < N → f h c = f k c → h = k) (hr : ∀ h c d, h < N → c < N → d < N → f h c = f h d → c = d)
    (p q : List Nat) (c d : Nat) (hc : c < N) (hd : d < N) (hq : ∀ x ∈ q, x < N) (e : (p ++ c :: q).foldl f s = (p ++ d :: q).foldl f s) : c = d := by
  rw [List.foldl_append, List.foldl_append, List.foldl_cons, List.foldl_cons] at e
  exact hr _ c d (fold_lt f s N hs hf p) hc hd (fold_left f N hf hi q _ _ (hf _ _) (hf _ _) hq e)

def mixStep (h c : Nat) : Nat := (h ^^^ c) * 16777619 % 4294967296
def start : Nat := 2166136261
def mixOf (l : List Nat) : Nat := l.foldl mixStep start
theorem start_lt : start < 4294967296 := by unfold start; omega
theorem step_lt (h c : Nat) : mixStep h c < 4294967296 := Nat.mod_lt _ (by omega)
theorem mixOf_lt (l : List Nat) : mixOf l < 4294967296 := fold_lt mixStep start _ start_lt step_lt l
theorem mixOf_take (l : List Nat) (k : Nat) (hk : k < l.length) : mixOf (l.take (k + 1)) = mixStep (mixOf (l.take k)) (l.getD k 0) := fold_take mixStep start l k hk

theorem mix_back (x : Nat) (h : x < 4294967296) : x * 16777619 % 4294967296 * 899433627 % 4294967296 = x := by omega

theorem xor_lt (a b : Nat) (ha : a < 4294967296) (hb : b < 4294967296) : a ^^^ b < 4294967296 := Nat.xor_lt_two_pow (n := 32) ha hb

theorem step_inj (h c k d : Nat) (hh : h < 4294967296) (hc : c < 4294967296) (hk : k < 4294967296) (hd : d < 4294967296) (e : mixStep h c = mixStep k d) : h ^^^ c = k ^^^ d := by
  have e1 := mix_back _ (xor_lt h c hh hc)
  have e2 := mix_back _ (xor_lt k d hk hd)
  unfold mixStep at e
  rw [e] at e1
  exact e1.symm.trans e2

theorem xor_left (a b c : Nat) (h : a ^^^ b = a ^^^ c) : b = c := by
  have := congrArg (a ^^^ ·) h
  simpa [← Nat.xor_assoc] using this

theorem step_right (h c d : Nat) (hh : h < 4294967296) (hc : c < 4294967296) (hd : d < 4294967296) (e : mixStep h c = mixStep h d) : c = d :=
  xor_left h c d (step_inj h c h d hh hc hh hd e)

theorem step_left (h k c : Nat) (hh : h < 4294967296) (hk : k < 4294967296) (hc : c < 4294967296) (e : mixStep h c = mixStep k c) : h = k := by
  have := step_inj h c k c hh hc hk hc e
  rw [Nat.xor_comm h, Nat.xor_comm k] at this
  exact xor_left c h k this

/-- Two lists that differ at one place alone are mixed apart. -/
theorem mix_apart (p q : List Nat) (c d : Nat) (hc : c < 4294967296) (hd : d < 4294967296) (hq : ∀ x ∈ q, x < 4294967296) (e : mixOf (p ++ c :: q) = mixOf (p ++ d :: q)) : c = d :=
  fold_apart mixStep start _ start_lt step_lt step_left step_right p q c d hc hd hq e

theorem xor_i64 (a b : Nat) (ha : a < 4294967296) (hb : b < 4294967296) : bits .xor .i64 (a : Int) (b : Int) = ((a ^^^ b : Nat) : Int) := by
  show IntKind.i64.wrap ((BitVec.ofInt 64 (a : Int) ^^^ BitVec.ofInt 64 (b : Int)).toNat : Int) = _
  rw [BitVec.toNat_xor, ofInt_u64 a (by omega), ofInt_u64 b (by omega)]
  have := xor_lt a b ha hb
  simp only [IntKind.wrap, IntKind.bits, IntKind.signed]
  simp
  omega

theorem step_cast (h c : Nat) : ((h ^^^ c : Nat) : Int) * 16777619 % 4294967296 = ((mixStep h c : Nat) : Int) := by
  unfold mixStep
  omega

/-- The four bytes of a key. -/
def bytesOf (n : Nat) : List Nat := [n % 256, n / 256 % 256, n / 65536 % 256, n / 16777216 % 256]
def keyMix (n : Nat) : Nat := mixOf (bytesOf n)
def spotMix (b i : Nat) : Nat := mixOf [98, b, i, 115]

theorem spot_second (b i j : Nat) (hi : i < 4294967296) (hj : j < 4294967296) : spotMix b i = spotMix b j ↔ i = j :=
  ⟨fun e => mix_apart [98, b] [115] i j hi hj (by simp) e, fun e => by rw [e]⟩
theorem spot_first (b c i : Nat) (hb : b < 4294967296) (hc : c < 4294967296) (hi : i < 4294967296) : spotMix b i = spotMix c i ↔ b = c :=
  ⟨fun e => mix_apart [98] [i, 115] b c hb hc (by simp [hi]) e, fun e => by rw [e]⟩
end Go.Proofs.Ytpmobbbohchdlab.Walks
