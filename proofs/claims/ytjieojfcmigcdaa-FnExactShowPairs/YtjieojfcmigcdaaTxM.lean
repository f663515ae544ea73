/- One that looks and changes: what it is, and when it is right. No Go. -/
import Derived.Test.YtjieojfcmigcdaaFit
namespace Go.Proofs.Ytjieojfcmigcdaa
open Go.RowKit
open KM

/-- one that looks and changes -/
structure Tx where
  id : Int
  st : Int
  snap : Int
  cs : Int
  rs : List Rg
  ws : List Wt
  out : Bool
  nm : ByteArray
/-- its value: where its reads and its writes lie -/
def txV (t : Tx) (ra : Option Addr) (rc : Nat) (wa : Option Addr) (wc : Nat) : List Value :=
  [.int .i64 t.id, .int .i64 t.st, .int .i64 t.snap, .int .i64 t.cs, .slice ra t.rs.length rc, .slice wa t.ws.length wc, .bool t.out, .string t.nm]
/-- its state, and what hangs on it -/
def stateB (t : Tx) : Bool :=
  (decide (t.st = 1) && decide (t.cs = 0) && !t.out && t.nm.toList.isEmpty) ||
  (decide (t.st = 2) && decide (t.cs = 0) && keyB t.nm) ||
  (decide (t.st = 3) && decide (t.snap < t.cs) && decide (t.cs ≤ 9999) && t.nm.toList.isEmpty)
/-- its reads -/
def readsB (rs : List Rg) : Bool := decide (rs.length ≤ 8) && rs.all rangeB
/-- it is right -/
def txnB (t : Tx) : Bool := decide (1 ≤ t.id) && decide (t.id ≤ 9999) && decide (0 ≤ t.snap) && decide (t.snap ≤ 9999) && stateB t && readsB t.rs && writesB t.ws
/-- texts that are not too long -/
def TFit (t : Tx) : Prop := t.rs.length ≤ 1048576 ∧ RFit t.rs ∧ t.ws.length ≤ 1048576 ∧ WFit t.ws ∧ t.nm.size ≤ 1048576
/-- what is read of one that looks and changes -/
structure TRow (w : World) (t : Tx) (ra wa : Option Addr) : Prop where
  r : GRow encR w ra t.rs
  w : GRow encW w wa t.ws
theorem TRow.below {w w' : World} {t : Tx} {ra wa : Option Addr} (h : TRow w t ra wa) (hb : Below w.heap.size w w') : TRow w' t ra wa := ⟨h.r.below hb, h.w.below hb⟩
end Go.Proofs.Ytjieojfcmigcdaa
