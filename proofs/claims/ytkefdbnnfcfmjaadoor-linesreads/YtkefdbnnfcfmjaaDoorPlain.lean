/-
  Events and their bytes in plain mathematics: the fields of each kind with their bounds, what is wrong with an event, a number's bytes, and how a frame is read. Nothing of the program is named here. No condition.
-/
namespace Go.Proofs.YtkefdbnnfcfmjaaDoor.Plain

structure Ev where
  kind : Int
  key : Int
  slot : Int
  gen : Int
  good : Bool
  req : Int
  be : Int
  wt : Int
  deriving DecidableEq

def Ev.zero : Ev := ⟨0, 0, 0, 0, false, 0, 0, 0⟩

def Ev.num (e : Ev) (o : Nat) : Int :=
  match o with
  | 1 => e.key
  | 2 => e.slot
  | 3 => e.gen
  | 4 => if e.good then 1 else 0
  | 5 => e.req
  | 6 => e.be
  | 7 => e.wt
  | _ => 0

def Ev.put (e : Ev) (o : Nat) (n : Int) : Ev :=
  match o with
  | 1 => { e with key := n }
  | 2 => { e with slot := n }
  | 3 => { e with gen := n }
  | 4 => { e with good := n == 1 }
  | 5 => { e with req := n }
  | 6 => { e with be := n }
  | 7 => { e with wt := n }
  | _ => e

structure Fld where
  off : Nat
  lo : Int
  hi : Int

def flds (k : Int) : Option (List Fld) :=
  if k = 1 then some [⟨1, 0, 4294967295⟩]
  else if k = 2 then some [⟨2, 0, 39⟩, ⟨3, 0, 1048576⟩]
  else if k = 3 then some [⟨2, 0, 39⟩, ⟨3, 0, 1048576⟩]
  else if k = 4 then some [⟨2, 0, 39⟩, ⟨3, 0, 1048576⟩, ⟨4, 0, 1⟩]
  else if k = 5 then some [⟨5, 0, 1048576⟩, ⟨6, 0, 11⟩, ⟨7, 1, 8⟩]
  else if k = 6 then some [⟨5, 0, 1048576⟩, ⟨6, 0, 11⟩]
  else if k = 7 then some []
  else none

/-- The kinds that there are. -/
theorem flds_cases (k : Int) : (k < 1 ∨ 7 < k) ∧ flds k = none ∨ k = 1 ∨ k = 2 ∨ k = 3 ∨ k = 4 ∨ k = 5 ∨ k = 6 ∨ k = 7 := by
  by_cases h : k < 1 ∨ 7 < k
  · refine .inl ⟨h, ?_⟩
    unfold flds
    rw [if_neg (by omega), if_neg (by omega), if_neg (by omega), if_neg (by omega), if_neg (by omega), if_neg (by omega), if_neg (by omega)]
  · omega

def Ev.within (e : Ev) (f : Fld) : Bool := decide (f.lo ≤ e.num f.off ∧ e.num f.off ≤ f.hi)

def Ev.clear (e : Ev) (fs : List Fld) : Ev := fs.foldl (fun e f => e.put f.off 0) e

def Ev.clean (e : Ev) (fs : List Fld) : Bool := decide ({ e.clear fs with kind := 0 } = Ev.zero)

/-- What is wrong with an event: 0 nothing, 5 no such kind, 2 a field out of its bounds, 3 something beside the fields. -/
def fault (e : Ev) : Int :=
  match flds e.kind with
  | none => 5
  | some fs => if fs.all e.within then (if e.clean fs then 0 else 3) else 2

/-- A number's bytes. -/
def enc (n : Nat) : List Nat := if h : n < 128 then [n] else (n % 128 + 128) :: enc (n / 128)

theorem enc_small (n : Nat) (h : n < 128) : enc n = [n] := by rw [enc, dif_pos h]
theorem enc_great (n : Nat) (h : ¬ n < 128) : enc n = (n % 128 + 128) :: enc (n / 128) := by rw [enc, dif_neg h]

def encEv (e : Ev) : List Nat := e.kind.toNat :: ((flds e.kind).getD []).flatMap (fun f => enc (e.num f.off).toNat)

def val : List Nat → Nat
  | [] => 0
  | x :: t => x % 128 + 128 * val t

/-- How many of the first k bytes, from the front, have their highest bit set. -/
def lead : Nat → List Nat → Nat
  | 0, _ => 0
  | _ + 1, [] => 0
  | k + 1, x :: t => if 128 ≤ x then lead k t + 1 else 0

/-- An error, or a number and how many bytes it takes. -/
abbrev Rd := Sum Int (Nat × Nat)

/-- The number at the front of these bytes. -/
def rd (l : List Nat) : Rd :=
  if lead 6 l = 6 ∧ 6 < l.length then .inl 2
  else if lead 6 l = l.length then .inl 4
  else if l.getD (lead 6 l) 0 = 0 ∧ 0 < lead 6 l then .inl 3
  else .inr (val (l.take (lead 6 l + 1)), lead 6 l + 1)

def fill : List Fld → List Nat → Ev → Ev × Int
  | [], [], e => (e, 0)
  | [], _ :: _, _ => (Ev.zero, 3)
  | f :: fs, l, e =>
    match rd l with
    | .inl c => (Ev.zero, c)
    | .inr (n, s) => if f.lo ≤ (n : Int) ∧ (n : Int) ≤ f.hi then fill fs (l.drop s) (e.put f.off n) else (Ev.zero, 2)

/-- What a frame says. -/
def dec (l : List Nat) : Ev × Int :=
  if 64 < l.length then (Ev.zero, 1)
  else match l with
    | [] => (Ev.zero, 4)
    | k :: t => match flds k with
      | none => (Ev.zero, 5)
      | some fs => fill fs t { Ev.zero with kind := k }

end Go.Proofs.YtkefdbnnfcfmjaaDoor.Plain
