/- Who is ahead of whom: what is asked of two. -/
import Derived.Test.YtnefncmkhgkdnaaA3
import Derived.Test.YtnefncmkhgkdnaaKyT1
import Derived.Test.YtnefncmkhgkdnaaKyM1
namespace Go.Proofs.Ytnefncmkhgkdnaa
open Go.RowKit
open KM
attribute [local go_sem ↓] Go.wp_at_zero Go.wp_at_succ

/-- whether a saw b let through when it began -/
def seesB (a b : Tx) : Bool := decide (b.st = 3) && decide (b.cs ≤ a.snap)
/-- both were there at once -/
def besB (a b : Tx) : Bool := decide (a.id ≠ b.id) && !seesB a b && !seesB b a
/-- a read what b writes -/
def ahB (a b : Tx) : Bool := besB a b && touchB a.rs b.ws
/-- t is blocked by x -/
def blkB (t x : Tx) : Bool := decide (t.id ≠ x.id) && !seesB t x && (decide (x.st = 2) || decide (x.st = 3)) && meetB t.ws x.ws
set_option maxRecDepth 100000 in
set_option maxHeartbeats 2000000 in
theorem isees (a b : Tx) (ra wa : Option Addr) (rc wc : Nat) (ra2 wa2 : Option Addr) (rc2 wc2 : Nat) (w : World) :
    Calls Try.prog 87 #[.agg #[.int .i64 a.id, .int .i64 a.st, .int .i64 a.snap, .int .i64 a.cs, .slice ra a.rs.length rc, .slice wa a.ws.length wc, .bool a.out, .string a.nm], .agg #[.int .i64 b.id, .int .i64 b.st, .int .i64 b.snap, .int .i64 b.cs, .slice ra2 b.rs.length rc2, .slice wa2 b.ws.length wc2, .bool b.out, .string b.nm]] w fun e w' => e = .returned (.bool (seesB a b)) ∧ Below w.heap.size w w' := by
  by_cases h1 : b.st = 3
  · by_cases h2 : b.cs ≤ a.snap
    · have HR : Hid (seesB a b = true) := by show _ = _; simp [seesB, h1, h2]
      go_enter Try.func87, Try.ntmps87
      go_wp2
      go_ret
      exact ⟨ret_bool HR.out.symm, ((belowRefl w).alloc (Nat.le_refl _) _).alloc (by simp) _⟩
    · have HR : Hid (seesB a b = false) := by show _ = _; simp [seesB, h1, h2]
      go_enter Try.func87, Try.ntmps87
      go_wp2
      go_ret
      exact ⟨ret_bool HR.out.symm, ((belowRefl w).alloc (Nat.le_refl _) _).alloc (by simp) _⟩
  · have HR : Hid (seesB a b = false) := by show _ = _; simp [seesB, h1]
    go_enter Try.func87, Try.ntmps87
    go_wp2
    go_ret
    exact ⟨ret_bool HR.out.symm, ((belowRefl w).alloc (Nat.le_refl _) _).alloc (by simp) _⟩

set_option maxRecDepth 100000 in
set_option maxHeartbeats 2000000 in
theorem ibeside (a b : Tx) (ra wa : Option Addr) (rc wc : Nat) (ra2 wa2 : Option Addr) (rc2 wc2 : Nat) (w : World) :
    Calls Try.prog 116 #[.agg #[.int .i64 a.id, .int .i64 a.st, .int .i64 a.snap, .int .i64 a.cs, .slice ra a.rs.length rc, .slice wa a.ws.length wc, .bool a.out, .string a.nm], .agg #[.int .i64 b.id, .int .i64 b.st, .int .i64 b.snap, .int .i64 b.cs, .slice ra2 b.rs.length rc2, .slice wa2 b.ws.length wc2, .bool b.out, .string b.nm]] w fun e w' => e = .returned (.bool (besB a b)) ∧ Below w.heap.size w w' := by
  have HB0 : Hid (Below w.heap.size w ((w.alloc (.cells #[.int .i64 a.id, .int .i64 a.st, .int .i64 a.snap, .int .i64 a.cs, .slice ra a.rs.length rc, .slice wa a.ws.length wc, .bool a.out, .string a.nm] 27)).alloc (.cells #[.int .i64 b.id, .int .i64 b.st, .int .i64 b.snap, .int .i64 b.cs, .slice ra2 b.rs.length rc2, .slice wa2 b.ws.length wc2, .bool b.out, .string b.nm] 27))) := ((belowRefl w).alloc (Nat.le_refl _) _).alloc (by simp) _
  have BA0 : Hid (Bx ((w.alloc (.cells #[.int .i64 a.id, .int .i64 a.st, .int .i64 a.snap, .int .i64 a.cs, .slice ra a.rs.length rc, .slice wa a.ws.length wc, .bool a.out, .string a.nm] 27)).alloc (.cells #[.int .i64 b.id, .int .i64 b.st, .int .i64 b.snap, .int .i64 b.cs, .slice ra2 b.rs.length rc2, .slice wa2 b.ws.length wc2, .bool b.out, .string b.nm] 27)) w.heap.size [.int .i64 a.id, .int .i64 a.st, .int .i64 a.snap, .int .i64 a.cs, .slice ra a.rs.length rc, .slice wa a.ws.length wc, .bool a.out, .string a.nm]) := (Bx.new w [.int .i64 a.id, .int .i64 a.st, .int .i64 a.snap, .int .i64 a.cs, .slice ra a.rs.length rc, .slice wa a.ws.length wc, .bool a.out, .string a.nm] 27).alloc _
  have BB0 : Hid (Bx ((w.alloc (.cells #[.int .i64 a.id, .int .i64 a.st, .int .i64 a.snap, .int .i64 a.cs, .slice ra a.rs.length rc, .slice wa a.ws.length wc, .bool a.out, .string a.nm] 27)).alloc (.cells #[.int .i64 b.id, .int .i64 b.st, .int .i64 b.snap, .int .i64 b.cs, .slice ra2 b.rs.length rc2, .slice wa2 b.ws.length wc2, .bool b.out, .string b.nm] 27)) (w.heap.size + 1) [.int .i64 b.id, .int .i64 b.st, .int .i64 b.snap, .int .i64 b.cs, .slice ra2 b.rs.length rc2, .slice wa2 b.ws.length wc2, .bool b.out, .string b.nm]) := by have h := Bx.new (w.alloc (.cells #[.int .i64 a.id, .int .i64 a.st, .int .i64 a.snap, .int .i64 a.cs, .slice ra a.rs.length rc, .slice wa a.ws.length wc, .bool a.out, .string a.nm] 27)) [.int .i64 b.id, .int .i64 b.st, .int .i64 b.snap, .int .i64 b.cs, .slice ra2 b.rs.length rc2, .slice wa2 b.ws.length wc2, .bool b.out, .string b.nm] 27; simpa [Hid] using h
  by_cases h1 : a.id = b.id
  · have h1' : (a.id != b.id) = false := by simp [h1]
    have h1'' : decide (a.id = b.id) = true := by simp [h1]
    have HR : Hid (besB a b = false) := by show _ = _; simp [besB, h1]
    clear h1
    go_enter Try.func116, Try.ntmps116
    go_wp2
    go_ret
    exact ⟨ret_bool HR.out.symm, HB0.out⟩
  · have h1' : (a.id != b.id) = true := by simp [h1]
    have h1'' : decide (a.id = b.id) = false := by simp [h1]
    have E1 : Hid (besB a b = (!seesB a b && !seesB b a)) := by show _ = _; simp [besB, h1]
    clear h1
    have H1 := hide (isees a b ra wa rc wc ra2 wa2 rc2 wc2)
    have H2 := hide (isees b a ra2 wa2 rc2 wc2 ra wa rc wc)
    cases hs : seesB a b
    · rw [hs] at H1 E1
      go_enter Try.func116, Try.ntmps116
      go_wp2_with fail
      refine (H1.out _).mono ?_
      rintro e w1 ⟨rfl, hb1⟩
      have HB1 : Hid (Below w.heap.size w w1) := HB0.out.trans (hb1.mono HB0.out.size)
      have BA1 : Hid (Bx w1 w.heap.size [.int .i64 a.id, .int .i64 a.st, .int .i64 a.snap, .int .i64 a.cs, .slice ra a.rs.length rc, .slice wa a.ws.length wc, .bool a.out, .string a.nm]) := BA0.out.below hb1
      have BB1 : Hid (Bx w1 (w.heap.size + 1) [.int .i64 b.id, .int .i64 b.st, .int .i64 b.snap, .int .i64 b.cs, .slice ra2 b.rs.length rc2, .slice wa2 b.ws.length wc2, .bool b.out, .string b.nm]) := BB0.out.below hb1
      clear hb1
      have x0 := BA1.out.c0
      have x1 := BA1.out.c1
      have x2 := BA1.out.c2
      have x3 := BA1.out.c3
      have x4 := BA1.out.c4
      have x5 := BA1.out.c5
      have x6 := BA1.out.c6
      have x7 := BA1.out.c7
      have y0 := BB1.out.c0
      have y1 := BB1.out.c1
      have y2 := BB1.out.c2
      have y3 := BB1.out.c3
      have y4 := BB1.out.c4
      have y5 := BB1.out.c5
      have y6 := BB1.out.c6
      have y7 := BB1.out.c7
      go_wp2_with fail
      refine (H2.out _).mono ?_
      rintro e w2 ⟨rfl, hb2⟩
      have HB2 : Hid (Below w.heap.size w w2) := HB1.out.trans (hb2.mono HB1.out.size)
      have BA2 : Hid (Bx w2 w.heap.size [.int .i64 a.id, .int .i64 a.st, .int .i64 a.snap, .int .i64 a.cs, .slice ra a.rs.length rc, .slice wa a.ws.length wc, .bool a.out, .string a.nm]) := BA1.out.below hb2
      have BB2 : Hid (Bx w2 (w.heap.size + 1) [.int .i64 b.id, .int .i64 b.st, .int .i64 b.snap, .int .i64 b.cs, .slice ra2 b.rs.length rc2, .slice wa2 b.ws.length wc2, .bool b.out, .string b.nm]) := BB1.out.below hb2
      go_wp2
      go_ret
      exact ⟨ret_bool (by rw [E1.out]; simp), HB2.out⟩
    · rw [hs] at H1 E1
      go_enter Try.func116, Try.ntmps116
      go_wp2_with fail
      refine (H1.out _).mono ?_
      rintro e w1 ⟨rfl, hb1⟩
      have HB1 : Hid (Below w.heap.size w w1) := HB0.out.trans (hb1.mono HB0.out.size)
      have BA1 : Hid (Bx w1 w.heap.size [.int .i64 a.id, .int .i64 a.st, .int .i64 a.snap, .int .i64 a.cs, .slice ra a.rs.length rc, .slice wa a.ws.length wc, .bool a.out, .string a.nm]) := BA0.out.below hb1
      have BB1 : Hid (Bx w1 (w.heap.size + 1) [.int .i64 b.id, .int .i64 b.st, .int .i64 b.snap, .int .i64 b.cs, .slice ra2 b.rs.length rc2, .slice wa2 b.ws.length wc2, .bool b.out, .string b.nm]) := BB0.out.below hb1
      go_wp2
      go_ret
      exact ⟨ret_bool (by rw [E1.out]; simp), HB1.out⟩


end Go.Proofs.Ytnefncmkhgkdnaa
