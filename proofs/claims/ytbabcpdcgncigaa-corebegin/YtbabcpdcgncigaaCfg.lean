/-
  A config, and what is right of it. No condition.
-/
import Derived.Test.YtbabcpdcgncigaaBk1
import Derived.Test.YtbabcpdcgncigaaHl1
import Derived.Test.YtbabcpdcgncigaaTb1
import Derived.Test.YtbabcpdcgncigaaWh1
import Derived.Test.YtbabcpdcgncigaaBase
import Derived.WalkKit
import Derived.ProofKit
import Derived.Handy
import Derived.LoopTactic
import Derived.Below
import Derived.Laws.BitsAllLaws
import Derived.RegionTactic
import Derived.Deep.RegionHeld3
import Derived.Deep.DrawnRows
import Derived.Deep.AppendLies
import Derived.Laws.OwnMore
import Derived.Deep.Onto
import Derived.Deep.QuietTactic
import Derived.BigQuiet
namespace Go.Proofs.Ytbabcpdcgncigaa.Walks
open Go.RowKit
set_option linter.unusedVariables false
set_option linter.unusedSimpArgs false
attribute [local go_sem ↓] Go.wp_at_zero Go.wp_at_succ

/-- A config. -/
structure Cf where
  flows : Int
  num : Int
  den : Int
  tries : Int
  warm : Int
  drain : Int
  idle : Int
  conn : Int
  ret : Int
  most : Int
  bn : Int
  bd : Int
  bb : Int
  wn : Int
  wf : Int
  wh : Int
  deriving DecidableEq

/-- A config that is right. -/
abbrev CfOk (c : Cf) : Prop :=
  (1 ≤ c.flows ∧ c.flows ≤ 40) ∧ (1 ≤ c.den ∧ c.den ≤ c.num) ∧ c.num ≤ 20 ∧ (0 ≤ c.tries ∧ c.tries ≤ 12) ∧ (0 ≤ c.warm ∧ c.warm ≤ 500) ∧
  (1 ≤ c.drain ∧ c.drain ≤ 500) ∧ (1 ≤ c.idle ∧ c.idle ≤ 500) ∧ (1 ≤ c.conn ∧ c.conn ≤ 500) ∧ (0 ≤ c.ret ∧ c.ret ≤ 20) ∧ (0 ≤ c.most ∧ c.most ≤ 100) ∧
  Bk.BudOk c.bn c.bd c.bb ∧ Hl.WatOk c.wn c.wf c.wh
end Go.Proofs.Ytbabcpdcgncigaa.Walks
