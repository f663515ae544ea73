/- Who is ahead of whom: the questions that are methods. -/
import Derived.Test.YtnneodofajhbcaaNbN1
import Derived.Deep.RegionHeld3
import Derived.Test.YtnneodofajhbcaaE5
import Derived.Test.YtnneodofajhbcaaV1
import Derived.Test.YtnneodofajhbcaaL1
import Derived.Test.YtnneodofajhbcaaL2
namespace Go.Proofs.Ytnneodofajhbcaa
open Go.RowKit
open KM
attribute [local go_sem ↓] Go.wp_at_zero Go.wp_at_succ

/-- the function q asks Q of two -/
def Asks (q : Nat) (Q : Tx → Tx → Bool) : Prop := ∀ (a b : Tx) (ra wa : Option Addr) (rc wc : Nat) (ra2 wa2 : Option Addr) (rc2 wc2 : Nat) (w : World), TFit a → TFit b → TRow w a ra wa → TRow w b ra2 wa2 →
  Calls Try.prog q #[.agg #[.int .i64 a.id, .int .i64 a.st, .int .i64 a.snap, .int .i64 a.cs, .slice ra a.rs.length rc, .slice wa a.ws.length wc, .bool a.out, .string a.nm], .agg #[.int .i64 b.id, .int .i64 b.st, .int .i64 b.snap, .int .i64 b.cs, .slice ra2 b.rs.length rc2, .slice wa2 b.ws.length wc2, .bool b.out, .string b.nm]] w fun e w' => e = .returned (.bool (Q a b)) ∧ Below w.heap.size w w'
def isBehind (a b : Tx) : Bool := ahB b a
def isOut (a b : Tx) : Bool := b.out && ahB a b

end Go.Proofs.Ytnneodofajhbcaa
