/- Who is ahead of whom: what is asked of two. -/
import Derived.Test.YtnneodofajhbcaaProg
import Derived.WalkKit
import Derived.Test.YtnneodofajhbcaaMath
import Derived.WalkSpells
import Derived.WalkLawsBesides
import Derived.Deep.QuietTactic
import Derived.BigQuiet
import Derived.Deep.RegionHeld3
import Derived.Deep.DrawnRows
import Derived.Test.YtnneodofajhbcaaK1
import Derived.Test.YtnneodofajhbcaaK2
import Derived.Deep.AppendLies
import Derived.Test.YtnneodofajhbcaaBase
import Derived.Test.YtnneodofajhbcaaEnc
import Derived.Test.YtnneodofajhbcaaFit
import Derived.Test.YtnneodofajhbcaaTxM
import Derived.Test.YtnneodofajhbcaaKyR1
import Derived.Test.YtnneodofajhbcaaR1
import Derived.Test.YtnneodofajhbcaaBx
import Derived.Test.YtnneodofajhbcaaA2
import Derived.Sort.OwnSorted
import Derived.Lib.RowBridge
import Derived.Test.YtnneodofajhbcaaH1
import Derived.Test.YtnneodofajhbcaaLie
import Derived.Test.YtnneodofajhbcaaA3
import Derived.Test.YtnneodofajhbcaaNbKyT1
import Derived.Test.YtnneodofajhbcaaNbKyM1
namespace Go.Proofs.Ytnneodofajhbcaa
open Go.RowKit
open KM
attribute [local go_sem ↓] Go.wp_at_zero Go.wp_at_succ

/-- whether a saw b let through when it began -/
def seesB (a b : Tx) : Bool := decide (b.st = 3) && decide (b.cs ≤ a.snap)
/-- both were there at once -/
def besB (a b : Tx) : Bool := decide (a.id ≠ b.id) && !seesB a b && !seesB b a
/-- a read what b writes -/
def ahB (a b : Tx) : Bool := besB a b && touchB a.rs b.ws
/-- t is blocked by x -/
def blkB (t x : Tx) : Bool := decide (t.id ≠ x.id) && !seesB t x && (decide (x.st = 2) || decide (x.st = 3)) && meetB t.ws x.ws
end Go.Proofs.Ytnneodofajhbcaa
