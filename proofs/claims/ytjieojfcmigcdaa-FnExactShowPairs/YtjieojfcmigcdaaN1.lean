/- Who is ahead of whom: what is asked of two. -/
import Derived.Test.YtjieojfcmigcdaaA3
import Derived.Test.YtjieojfcmigcdaaKyT1
import Derived.Test.YtjieojfcmigcdaaKyM1
namespace Go.Proofs.Ytjieojfcmigcdaa
open Go.RowKit
open KM
attribute [local go_sem ↓] Go.wp_at_zero Go.wp_at_succ

/-- whether a saw b let through when it began -/
def seesB (a b : Tx) : Bool := decide (b.st = 3) && decide (b.cs ≤ a.snap)
/-- both were there at once -/
def besB (a b : Tx) : Bool := decide (a.id ≠ b.id) && !seesB a b && !seesB b a
/-- a read what b writes -/
def ahB (a b : Tx) : Bool := besB a b && touchB a.rs b.ws
/-- t is blocked by x -/
def blkB (t x : Tx) : Bool := decide (t.id ≠ x.id) && !seesB t x && (decide (x.st = 2) || decide (x.st = 3)) && meetB t.ws x.ws
end Go.Proofs.Ytjieojfcmigcdaa
