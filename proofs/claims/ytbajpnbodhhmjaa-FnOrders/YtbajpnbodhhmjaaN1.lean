/- Who is ahead of whom: what is asked of two. -/
import Derived.Test.YtbajpnbodhhmjaaA3
import Derived.Test.YtbajpnbodhhmjaaKyT1
import Derived.Test.YtbajpnbodhhmjaaKyM1
namespace Go.Proofs.Ytbajpnbodhhmjaa
open Go.RowKit
open KM
attribute [local go_sem ↓] Go.wp_at_zero Go.wp_at_succ

/-- whether a saw b let through when it began -/
def seesB (a b : Tx) : Bool := decide (b.st = 3) && decide (b.cs ≤ a.snap)
/-- both were there at once -/
def besB (a b : Tx) : Bool := decide (a.id ≠ b.id) && !seesB a b && !seesB b a
/-- a read what b writes -/
def ahB (a b : Tx) : Bool := besB a b && touchB a.rs b.ws
/-- t is blocked by x -/
def blkB (t x : Tx) : Bool := decide (t.id ≠ x.id) && !seesB t x && (decide (x.st = 2) || decide (x.st = 3)) && meetB t.ws x.ws
set_option maxRecDepth 100000 in
set_option maxHeartbeats 2000000 in
theorem isees (a b : Tx) (ra wa : Option Addr) (rc wc : Nat) (ra2 wa2 : Option Addr) (rc2 wc2 : Nat) (w : World) :
    Calls Try.prog 17 #[.agg #[.int .i64 a.id, .int .i64 a.st, .int .i64 a.snap, .int .i64 a.cs, .slice ra a.rs.length rc, .slice wa a.ws.length wc, .bool a.out, .string a.nm], .agg #[.int .i64 b.id, .int .i64 b.st, .int .i64 b.snap, .int .i64 b.cs, .slice ra2 b.rs.length rc2, .slice wa2 b.ws.length wc2, .bool b.out, .string b.nm]] w fun e w' => e = .returned (.bool (seesB a b)) ∧ Below w.heap.size w w' := by
  by_cases h1 : b.st = 3
  · by_cases h2 : b.cs ≤ a.snap
    · have HR : Hid (seesB a b = true) := by show _ = _; simp [seesB, h1, h2]
      go_enter Try.func17, Try.ntmps17
      go_wp2
      go_ret
      exact ⟨ret_bool HR.out.symm, ((belowRefl w).alloc (Nat.le_refl _) _).alloc (by simp) _⟩
    · have HR : Hid (seesB a b = false) := by show _ = _; simp [seesB, h1, h2]
      go_enter Try.func17, Try.ntmps17
      go_wp2
      go_ret
      exact ⟨ret_bool HR.out.symm, ((belowRefl w).alloc (Nat.le_refl _) _).alloc (by simp) _⟩
  · have HR : Hid (seesB a b = false) := by show _ = _; simp [seesB, h1]
    go_enter Try.func17, Try.ntmps17
    go_wp2
    go_ret
    exact ⟨ret_bool HR.out.symm, ((belowRefl w).alloc (Nat.le_refl _) _).alloc (by simp) _⟩

end Go.Proofs.Ytbajpnbodhhmjaa
