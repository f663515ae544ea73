/- One by one: Before, of the program and of the specification. -/
import Derived.Test.YtbajpnbodhhmjaaGreatPs03
import Derived.Deep.Cut
import Derived.Deep.CutRange
namespace Go.Proofs.YtbajpnbodhhmjaaGreat
open Go.RowKit
open KM
attribute [local go_sem ↓] Go.wp_at_zero Go.wp_at_succ

def befB (a b : Tx) : Bool := decide (a.st = 3) && decide (b.st = 3) && decide (a.id ≠ b.id) && (decide (a.cs ≤ b.snap) && touchB b.rs a.ws || decide (a.cs < b.cs) && meetB a.ws b.ws || decide (a.snap < b.cs) && touchB a.rs b.ws)
set_option maxRecDepth 100000 in
set_option maxHeartbeats 20000000 in
theorem ibefore (a b : Tx) (ra wa : Option Addr) (rc wc : Nat) (ra2 wa2 : Option Addr) (rc2 wc2 : Nat) (har1 : a.rs.length ≤ 1048576) (haw1 : a.ws.length ≤ 1048576) (hbr1 : b.rs.length ≤ 1048576) (hbw1 : b.ws.length ≤ 1048576) (hfa : WFit a.ws) (hfb : WFit b.ws) (w : World) (har : GRow encR w ra a.rs) (haw : GRow encW w wa a.ws) (hbr : GRow encR w ra2 b.rs) (hbw : GRow encW w wa2 b.ws) :
  Calls Tryz.prog 20 #[.agg #[.int .i64 a.id, .int .i64 a.st, .int .i64 a.snap, .int .i64 a.cs, .slice ra a.rs.length rc, .slice wa a.ws.length wc, .bool a.out, .string a.nm], .agg #[.int .i64 b.id, .int .i64 b.st, .int .i64 b.snap, .int .i64 b.cs, .slice ra2 b.rs.length rc2, .slice wa2 b.ws.length wc2, .bool b.out, .string b.nm]] w fun e w' => e = .returned (.bool (befB a b)) ∧ Below w.heap.size w w' := by
 have HRA : Hid (GRow encR w ra a.rs) := har
 have HWA : Hid (GRow encW w wa a.ws) := haw
 have HRB : Hid (GRow encR w ra2 b.rs) := hbr
 have HWB : Hid (GRow encW w wa2 b.ws) := hbw
 clear har haw hbr hbw
 have HB0 : Hid (Below w.heap.size w ((w.alloc (.cells #[.int .i64 a.id, .int .i64 a.st, .int .i64 a.snap, .int .i64 a.cs, .slice ra a.rs.length rc, .slice wa a.ws.length wc, .bool a.out, .string a.nm] 30)).alloc (.cells #[.int .i64 b.id, .int .i64 b.st, .int .i64 b.snap, .int .i64 b.cs, .slice ra2 b.rs.length rc2, .slice wa2 b.ws.length wc2, .bool b.out, .string b.nm] 30))) := ((belowRefl w).alloc (Nat.le_refl _) _).alloc (by simp) _
 have BA0 : Hid (Bx ((w.alloc (.cells #[.int .i64 a.id, .int .i64 a.st, .int .i64 a.snap, .int .i64 a.cs, .slice ra a.rs.length rc, .slice wa a.ws.length wc, .bool a.out, .string a.nm] 30)).alloc (.cells #[.int .i64 b.id, .int .i64 b.st, .int .i64 b.snap, .int .i64 b.cs, .slice ra2 b.rs.length rc2, .slice wa2 b.ws.length wc2, .bool b.out, .string b.nm] 30)) w.heap.size [.int .i64 a.id, .int .i64 a.st, .int .i64 a.snap, .int .i64 a.cs, .slice ra a.rs.length rc, .slice wa a.ws.length wc, .bool a.out, .string a.nm]) := (Bx.new w [.int .i64 a.id, .int .i64 a.st, .int .i64 a.snap, .int .i64 a.cs, .slice ra a.rs.length rc, .slice wa a.ws.length wc, .bool a.out, .string a.nm] 30).alloc _
 have BB0 : Hid (Bx ((w.alloc (.cells #[.int .i64 a.id, .int .i64 a.st, .int .i64 a.snap, .int .i64 a.cs, .slice ra a.rs.length rc, .slice wa a.ws.length wc, .bool a.out, .string a.nm] 30)).alloc (.cells #[.int .i64 b.id, .int .i64 b.st, .int .i64 b.snap, .int .i64 b.cs, .slice ra2 b.rs.length rc2, .slice wa2 b.ws.length wc2, .bool b.out, .string b.nm] 30)) (w.heap.size + 1) [.int .i64 b.id, .int .i64 b.st, .int .i64 b.snap, .int .i64 b.cs, .slice ra2 b.rs.length rc2, .slice wa2 b.ws.length wc2, .bool b.out, .string b.nm]) := by have h := Bx.new (w.alloc (.cells #[.int .i64 a.id, .int .i64 a.st, .int .i64 a.snap, .int .i64 a.cs, .slice ra a.rs.length rc, .slice wa a.ws.length wc, .bool a.out, .string a.nm] 30)) [.int .i64 b.id, .int .i64 b.st, .int .i64 b.snap, .int .i64 b.cs, .slice ra2 b.rs.length rc2, .slice wa2 b.ws.length wc2, .bool b.out, .string b.nm] 30; simpa [Hid] using h
 by_cases hA : a.st = 3
 rotate_left
 ·have EE : Hid (befB a b = false) := by show _ = _; simp [befB, hA]
  have hA1 : (a.st != 3) = true := by simp [hA]
  have hA2 : (a.st == 3) = false := by simp [hA]
  have hA3 : decide (a.st = 3) = false := by simp [hA]
  clear hA
  go_enter Tryz.func20, Tryz.ntmps20
  go_wp2
  go_ret
  exact ⟨ret_bool EE.out.symm, HB0.out⟩
 by_cases hB : b.st = 3
 rotate_left
 ·have EE : Hid (befB a b = false) := by show _ = _; simp [befB, hB]
  have hA1 : (a.st != 3) = false := by simp [hA]
  have hA2 : (a.st == 3) = true := by simp [hA]
  have hA3 : decide (a.st = 3) = true := by simp [hA]
  have hB1 : (b.st != 3) = true := by simp [hB]
  have hB2 : (b.st == 3) = false := by simp [hB]
  have hB3 : decide (b.st = 3) = false := by simp [hB]
  clear hA hB
  go_enter Tryz.func20, Tryz.ntmps20
  go_wp2
  go_ret
  exact ⟨ret_bool EE.out.symm, HB0.out⟩
 by_cases hI : a.id = b.id
 ·have EE : Hid (befB a b = false) := by show _ = _; simp [befB, hI]
  have hI1 : (a.id != b.id) = false := by simp [hI]
  have hI2 : (a.id == b.id) = true := by simp [hI]
  have hI3 : decide (a.id = b.id) = true := by simp [hI]
  have hA1 : (a.st != 3) = false := by simp [hA]
  have hA2 : (a.st == 3) = true := by simp [hA]
  have hA3 : decide (a.st = 3) = true := by simp [hA]
  have hB1 : (b.st != 3) = false := by simp [hB]
  have hB2 : (b.st == 3) = true := by simp [hB]
  have hB3 : decide (b.st = 3) = true := by simp [hB]
  clear hA hB hI
  go_enter Tryz.func20, Tryz.ntmps20
  go_wp2
  go_ret
  exact ⟨ret_bool EE.out.symm, HB0.out⟩
 have EE : Hid (befB a b = (decide (a.cs ≤ b.snap) && touchB b.rs a.ws || decide (a.cs < b.cs) && meetB a.ws b.ws || decide (a.snap < b.cs) && touchB a.rs b.ws)) := by show _ = _; simp [befB, hA, hB, hI]
 have hI1 : (a.id != b.id) = true := by simp [hI]
 have hI2 : (a.id == b.id) = false := by simp [hI]
 have hI3 : decide (a.id = b.id) = false := by simp [hI]
 have hA1 : (a.st != 3) = false := by simp [hA]
 have hA2 : (a.st == 3) = true := by simp [hA]
 have hA3 : decide (a.st = 3) = true := by simp [hA]
 have hB1 : (b.st != 3) = false := by simp [hB]
 have hB2 : (b.st == 3) = true := by simp [hB]
 have hB3 : decide (b.st = 3) = true := by simp [hB]
 have H1 := hide (isees b a ra2 wa2 rc2 wc2 ra wa rc wc)
 have H2 := hide (isees a b ra wa rc wc ra2 wa2 rc2 wc2)
 have HT1 : Hid (∀ w1, Below w.heap.size w w1 → _) := fun w1 h1 => itouch b.rs a.ws ra2 wa rc2 wc (Nat.le_trans hbr1 (by decide)) (Nat.le_trans haw1 (by decide)) w1 (HRB.out.below h1) (HWA.out.below h1)
 have HT2 : Hid (∀ w1, Below w.heap.size w w1 → _) := fun w1 h1 => itouch a.rs b.ws ra wa2 rc wc2 (Nat.le_trans har1 (by decide)) (Nat.le_trans hbw1 (by decide)) w1 (HRA.out.below h1) (HWB.out.below h1)
 have HM : Hid (∀ w1, Below w.heap.size w w1 → _) := fun w1 h1 => imeets a.ws b.ws wa wa2 wc wc2 haw1 hbw1 hfa hfb w1 (HWA.out.below h1) (HWB.out.below h1)
 by_cases hs1 : a.cs ≤ b.snap
 ·have e1 : decide (a.cs ≤ b.snap) = true := by simp [hs1]
  have q1 : seesB b a = true := by simp [seesB, hA, hs1]
  rw [q1] at H1
  rw [e1] at EE
  clear hs1
  clear q1
  rcases Bool.eq_false_or_eq_true (touchB b.rs a.ws) with ht1 | ht1
  ·rw [ht1] at HT1 EE
   clear ht1
   clear hA hB hI
   go_enter Tryz.func20, Tryz.ntmps20
   go_upto_region 3 with fail
   try simp only [List.append_eq, List.cons_append, List.nil_append]
   go_wp2_with fail
   refine (H1.out _).mono ?_
   rintro e w1 ⟨rfl, hb1⟩
   have HB1 : Hid (Below w.heap.size w w1) := HB0.out.trans (hb1.mono HB0.out.size)
   have BA1 : Hid (Bx w1 w.heap.size [.int .i64 a.id, .int .i64 a.st, .int .i64 a.snap, .int .i64 a.cs, .slice ra a.rs.length rc, .slice wa a.ws.length wc, .bool a.out, .string a.nm]) := BA0.out.below hb1
   have BB1 : Hid (Bx w1 (w.heap.size + 1) [.int .i64 b.id, .int .i64 b.st, .int .i64 b.snap, .int .i64 b.cs, .slice ra2 b.rs.length rc2, .slice wa2 b.ws.length wc2, .bool b.out, .string b.nm]) := BB0.out.below hb1
   clear hb1
   have x0 := BA1.out.c0
   have y0 := BB1.out.c0
   have x1 := BA1.out.c1
   have y1 := BB1.out.c1
   have x2 := BA1.out.c2
   have y2 := BB1.out.c2
   have x3 := BA1.out.c3
   have y3 := BB1.out.c3
   have x4 := BA1.out.c4
   have y4 := BB1.out.c4
   have x5 := BA1.out.c5
   have y5 := BB1.out.c5
   have x6 := BA1.out.c6
   have y6 := BB1.out.c6
   have x7 := BA1.out.c7
   have y7 := BB1.out.c7
   go_wp2_with fail
   refine (HT1.out _ HB1.out).mono ?_
   rintro e w2 ⟨rfl, hb2⟩
   have HB2 : Hid (Below w.heap.size w w2) := HB1.out.trans (hb2.mono HB1.out.size)
   have BA2 : Hid (Bx w2 w.heap.size [.int .i64 a.id, .int .i64 a.st, .int .i64 a.snap, .int .i64 a.cs, .slice ra a.rs.length rc, .slice wa a.ws.length wc, .bool a.out, .string a.nm]) := BA1.out.below hb2
   have BB2 : Hid (Bx w2 (w.heap.size + 1) [.int .i64 b.id, .int .i64 b.st, .int .i64 b.snap, .int .i64 b.cs, .slice ra2 b.rs.length rc2, .slice wa2 b.ws.length wc2, .bool b.out, .string b.nm]) := BB1.out.below hb2
   clear hb2
   clear x0 y0 x1 y1 x2 y2 x3 y3 x4 y4 x5 y5 x6 y6 x7 y7
   have x0 := BA2.out.c0
   have y0 := BB2.out.c0
   have x1 := BA2.out.c1
   have y1 := BB2.out.c1
   have x2 := BA2.out.c2
   have y2 := BB2.out.c2
   have x3 := BA2.out.c3
   have y3 := BB2.out.c3
   have x4 := BA2.out.c4
   have y4 := BB2.out.c4
   have x5 := BA2.out.c5
   have y5 := BB2.out.c5
   have x6 := BA2.out.c6
   have y6 := BB2.out.c6
   have x7 := BA2.out.c7
   have y7 := BB2.out.c7
   go_wp2
   go_ret
   exact ⟨ret_bool (by rw [EE.out]; simp), HB2.out⟩
  ·rw [ht1] at HT1 EE
   clear ht1
   by_cases hc : a.cs < b.cs
   ·have e2 : decide (a.cs < b.cs) = true := by simp [hc]
    rw [e2] at EE
    clear hc
    rcases Bool.eq_false_or_eq_true (meetB a.ws b.ws) with hm | hm
    ·rw [hm] at HM EE
     clear hm
     clear hA hB hI
     go_enter Tryz.func20, Tryz.ntmps20
     go_upto_region 3 with fail
     try simp only [List.append_eq, List.cons_append, List.nil_append]
     go_wp2_with fail
     refine (H1.out _).mono ?_
     rintro e w1 ⟨rfl, hb1⟩
     have HB1 : Hid (Below w.heap.size w w1) := HB0.out.trans (hb1.mono HB0.out.size)
     have BA1 : Hid (Bx w1 w.heap.size [.int .i64 a.id, .int .i64 a.st, .int .i64 a.snap, .int .i64 a.cs, .slice ra a.rs.length rc, .slice wa a.ws.length wc, .bool a.out, .string a.nm]) := BA0.out.below hb1
     have BB1 : Hid (Bx w1 (w.heap.size + 1) [.int .i64 b.id, .int .i64 b.st, .int .i64 b.snap, .int .i64 b.cs, .slice ra2 b.rs.length rc2, .slice wa2 b.ws.length wc2, .bool b.out, .string b.nm]) := BB0.out.below hb1
     clear hb1
     have x0 := BA1.out.c0
     have y0 := BB1.out.c0
     have x1 := BA1.out.c1
     have y1 := BB1.out.c1
     have x2 := BA1.out.c2
     have y2 := BB1.out.c2
     have x3 := BA1.out.c3
     have y3 := BB1.out.c3
     have x4 := BA1.out.c4
     have y4 := BB1.out.c4
     have x5 := BA1.out.c5
     have y5 := BB1.out.c5
     have x6 := BA1.out.c6
     have y6 := BB1.out.c6
     have x7 := BA1.out.c7
     have y7 := BB1.out.c7
     go_wp2_with fail
     refine (HT1.out _ HB1.out).mono ?_
     rintro e w2 ⟨rfl, hb2⟩
     have HB2 : Hid (Below w.heap.size w w2) := HB1.out.trans (hb2.mono HB1.out.size)
     have BA2 : Hid (Bx w2 w.heap.size [.int .i64 a.id, .int .i64 a.st, .int .i64 a.snap, .int .i64 a.cs, .slice ra a.rs.length rc, .slice wa a.ws.length wc, .bool a.out, .string a.nm]) := BA1.out.below hb2
     have BB2 : Hid (Bx w2 (w.heap.size + 1) [.int .i64 b.id, .int .i64 b.st, .int .i64 b.snap, .int .i64 b.cs, .slice ra2 b.rs.length rc2, .slice wa2 b.ws.length wc2, .bool b.out, .string b.nm]) := BB1.out.below hb2
     clear hb2
     clear x0 y0 x1 y1 x2 y2 x3 y3 x4 y4 x5 y5 x6 y6 x7 y7
     have x0 := BA2.out.c0
     have y0 := BB2.out.c0
     have x1 := BA2.out.c1
     have y1 := BB2.out.c1
     have x2 := BA2.out.c2
     have y2 := BB2.out.c2
     have x3 := BA2.out.c3
     have y3 := BB2.out.c3
     have x4 := BA2.out.c4
     have y4 := BB2.out.c4
     have x5 := BA2.out.c5
     have y5 := BB2.out.c5
     have x6 := BA2.out.c6
     have y6 := BB2.out.c6
     have x7 := BA2.out.c7
     have y7 := BB2.out.c7
     go_wp2_with fail
     refine (HM.out _ HB2.out).mono ?_
     rintro e w3 ⟨rfl, hb3⟩
     have HB3 : Hid (Below w.heap.size w w3) := HB2.out.trans (hb3.mono HB2.out.size)
     have BA3 : Hid (Bx w3 w.heap.size [.int .i64 a.id, .int .i64 a.st, .int .i64 a.snap, .int .i64 a.cs, .slice ra a.rs.length rc, .slice wa a.ws.length wc, .bool a.out, .string a.nm]) := BA2.out.below hb3
     have BB3 : Hid (Bx w3 (w.heap.size + 1) [.int .i64 b.id, .int .i64 b.st, .int .i64 b.snap, .int .i64 b.cs, .slice ra2 b.rs.length rc2, .slice wa2 b.ws.length wc2, .bool b.out, .string b.nm]) := BB2.out.below hb3
     clear hb3
     clear x0 y0 x1 y1 x2 y2 x3 y3 x4 y4 x5 y5 x6 y6 x7 y7
     have x0 := BA3.out.c0
     have y0 := BB3.out.c0
     have x1 := BA3.out.c1
     have y1 := BB3.out.c1
     have x2 := BA3.out.c2
     have y2 := BB3.out.c2
     have x3 := BA3.out.c3
     have y3 := BB3.out.c3
     have x4 := BA3.out.c4
     have y4 := BB3.out.c4
     have x5 := BA3.out.c5
     have y5 := BB3.out.c5
     have x6 := BA3.out.c6
     have y6 := BB3.out.c6
     have x7 := BA3.out.c7
     have y7 := BB3.out.c7
     go_wp2
     go_ret
     exact ⟨ret_bool (by rw [EE.out]; simp), HB3.out⟩
    ·rw [hm] at HM EE
     clear hm
     by_cases hs2 : a.snap < b.cs
     ·have e3 : decide (a.snap < b.cs) = true := by simp [hs2]
      have q2 : seesB a b = false := by simp [seesB, hB]; omega
      rw [q2] at H2
      clear q2
      rw [e3] at EE
      clear hs2
      clear hA hB hI
      go_enter Tryz.func20, Tryz.ntmps20
      go_upto_region 3 with fail
      try simp only [List.append_eq, List.cons_append, List.nil_append]
      go_wp2_with fail
      refine (H1.out _).mono ?_
      rintro e w1 ⟨rfl, hb1⟩
      have HB1 : Hid (Below w.heap.size w w1) := HB0.out.trans (hb1.mono HB0.out.size)
      have BA1 : Hid (Bx w1 w.heap.size [.int .i64 a.id, .int .i64 a.st, .int .i64 a.snap, .int .i64 a.cs, .slice ra a.rs.length rc, .slice wa a.ws.length wc, .bool a.out, .string a.nm]) := BA0.out.below hb1
      have BB1 : Hid (Bx w1 (w.heap.size + 1) [.int .i64 b.id, .int .i64 b.st, .int .i64 b.snap, .int .i64 b.cs, .slice ra2 b.rs.length rc2, .slice wa2 b.ws.length wc2, .bool b.out, .string b.nm]) := BB0.out.below hb1
      clear hb1
      have x0 := BA1.out.c0
      have y0 := BB1.out.c0
      have x1 := BA1.out.c1
      have y1 := BB1.out.c1
      have x2 := BA1.out.c2
      have y2 := BB1.out.c2
      have x3 := BA1.out.c3
      have y3 := BB1.out.c3
      have x4 := BA1.out.c4
      have y4 := BB1.out.c4
      have x5 := BA1.out.c5
      have y5 := BB1.out.c5
      have x6 := BA1.out.c6
      have y6 := BB1.out.c6
      have x7 := BA1.out.c7
      have y7 := BB1.out.c7
      go_wp2_with fail
      refine (HT1.out _ HB1.out).mono ?_
      rintro e w2 ⟨rfl, hb2⟩
      have HB2 : Hid (Below w.heap.size w w2) := HB1.out.trans (hb2.mono HB1.out.size)
      have BA2 : Hid (Bx w2 w.heap.size [.int .i64 a.id, .int .i64 a.st, .int .i64 a.snap, .int .i64 a.cs, .slice ra a.rs.length rc, .slice wa a.ws.length wc, .bool a.out, .string a.nm]) := BA1.out.below hb2
      have BB2 : Hid (Bx w2 (w.heap.size + 1) [.int .i64 b.id, .int .i64 b.st, .int .i64 b.snap, .int .i64 b.cs, .slice ra2 b.rs.length rc2, .slice wa2 b.ws.length wc2, .bool b.out, .string b.nm]) := BB1.out.below hb2
      clear hb2
      clear x0 y0 x1 y1 x2 y2 x3 y3 x4 y4 x5 y5 x6 y6 x7 y7
      have x0 := BA2.out.c0
      have y0 := BB2.out.c0
      have x1 := BA2.out.c1
      have y1 := BB2.out.c1
      have x2 := BA2.out.c2
      have y2 := BB2.out.c2
      have x3 := BA2.out.c3
      have y3 := BB2.out.c3
      have x4 := BA2.out.c4
      have y4 := BB2.out.c4
      have x5 := BA2.out.c5
      have y5 := BB2.out.c5
      have x6 := BA2.out.c6
      have y6 := BB2.out.c6
      have x7 := BA2.out.c7
      have y7 := BB2.out.c7
      go_wp2_with fail
      refine (HM.out _ HB2.out).mono ?_
      rintro e w3 ⟨rfl, hb3⟩
      have HB3 : Hid (Below w.heap.size w w3) := HB2.out.trans (hb3.mono HB2.out.size)
      have BA3 : Hid (Bx w3 w.heap.size [.int .i64 a.id, .int .i64 a.st, .int .i64 a.snap, .int .i64 a.cs, .slice ra a.rs.length rc, .slice wa a.ws.length wc, .bool a.out, .string a.nm]) := BA2.out.below hb3
      have BB3 : Hid (Bx w3 (w.heap.size + 1) [.int .i64 b.id, .int .i64 b.st, .int .i64 b.snap, .int .i64 b.cs, .slice ra2 b.rs.length rc2, .slice wa2 b.ws.length wc2, .bool b.out, .string b.nm]) := BB2.out.below hb3
      clear hb3
      clear x0 y0 x1 y1 x2 y2 x3 y3 x4 y4 x5 y5 x6 y6 x7 y7
      have x0 := BA3.out.c0
      have y0 := BB3.out.c0
      have x1 := BA3.out.c1
      have y1 := BB3.out.c1
      have x2 := BA3.out.c2
      have y2 := BB3.out.c2
      have x3 := BA3.out.c3
      have y3 := BB3.out.c3
      have x4 := BA3.out.c4
      have y4 := BB3.out.c4
      have x5 := BA3.out.c5
      have y5 := BB3.out.c5
      have x6 := BA3.out.c6
      have y6 := BB3.out.c6
      have x7 := BA3.out.c7
      have y7 := BB3.out.c7
      go_wp2_with fail
      refine (H2.out _).mono ?_
      rintro e w4 ⟨rfl, hb4⟩
      have HB4 : Hid (Below w.heap.size w w4) := HB3.out.trans (hb4.mono HB3.out.size)
      have BA4 : Hid (Bx w4 w.heap.size [.int .i64 a.id, .int .i64 a.st, .int .i64 a.snap, .int .i64 a.cs, .slice ra a.rs.length rc, .slice wa a.ws.length wc, .bool a.out, .string a.nm]) := BA3.out.below hb4
      have BB4 : Hid (Bx w4 (w.heap.size + 1) [.int .i64 b.id, .int .i64 b.st, .int .i64 b.snap, .int .i64 b.cs, .slice ra2 b.rs.length rc2, .slice wa2 b.ws.length wc2, .bool b.out, .string b.nm]) := BB3.out.below hb4
      clear hb4
      clear x0 y0 x1 y1 x2 y2 x3 y3 x4 y4 x5 y5 x6 y6 x7 y7
      have x0 := BA4.out.c0
      have y0 := BB4.out.c0
      have x1 := BA4.out.c1
      have y1 := BB4.out.c1
      have x2 := BA4.out.c2
      have y2 := BB4.out.c2
      have x3 := BA4.out.c3
      have y3 := BB4.out.c3
      have x4 := BA4.out.c4
      have y4 := BB4.out.c4
      have x5 := BA4.out.c5
      have y5 := BB4.out.c5
      have x6 := BA4.out.c6
      have y6 := BB4.out.c6
      have x7 := BA4.out.c7
      have y7 := BB4.out.c7
      go_wp2_with fail
      refine (HT2.out _ HB4.out).mono ?_
      rintro e w5 ⟨rfl, hb5⟩
      have HB5 : Hid (Below w.heap.size w w5) := HB4.out.trans (hb5.mono HB4.out.size)
      have BA5 : Hid (Bx w5 w.heap.size [.int .i64 a.id, .int .i64 a.st, .int .i64 a.snap, .int .i64 a.cs, .slice ra a.rs.length rc, .slice wa a.ws.length wc, .bool a.out, .string a.nm]) := BA4.out.below hb5
      have BB5 : Hid (Bx w5 (w.heap.size + 1) [.int .i64 b.id, .int .i64 b.st, .int .i64 b.snap, .int .i64 b.cs, .slice ra2 b.rs.length rc2, .slice wa2 b.ws.length wc2, .bool b.out, .string b.nm]) := BB4.out.below hb5
      clear hb5
      clear x0 y0 x1 y1 x2 y2 x3 y3 x4 y4 x5 y5 x6 y6 x7 y7
      have x0 := BA5.out.c0
      have y0 := BB5.out.c0
      have x1 := BA5.out.c1
      have y1 := BB5.out.c1
      have x2 := BA5.out.c2
      have y2 := BB5.out.c2
      have x3 := BA5.out.c3
      have y3 := BB5.out.c3
      have x4 := BA5.out.c4
      have y4 := BB5.out.c4
      have x5 := BA5.out.c5
      have y5 := BB5.out.c5
      have x6 := BA5.out.c6
      have y6 := BB5.out.c6
      have x7 := BA5.out.c7
      have y7 := BB5.out.c7
      go_wp2
      go_ret
      exact ⟨ret_bool (by rw [EE.out]; simp), HB5.out⟩
     ·have e3 : decide (a.snap < b.cs) = false := by simp [hs2]
      have q2 : seesB a b = true := by simp [seesB, hB]; omega
      rw [q2] at H2
      clear q2
      rw [e3] at EE
      clear hs2
      clear hA hB hI
      go_enter Tryz.func20, Tryz.ntmps20
      go_upto_region 3 with fail
      try simp only [List.append_eq, List.cons_append, List.nil_append]
      go_wp2_with fail
      refine (H1.out _).mono ?_
      rintro e w1 ⟨rfl, hb1⟩
      have HB1 : Hid (Below w.heap.size w w1) := HB0.out.trans (hb1.mono HB0.out.size)
      have BA1 : Hid (Bx w1 w.heap.size [.int .i64 a.id, .int .i64 a.st, .int .i64 a.snap, .int .i64 a.cs, .slice ra a.rs.length rc, .slice wa a.ws.length wc, .bool a.out, .string a.nm]) := BA0.out.below hb1
      have BB1 : Hid (Bx w1 (w.heap.size + 1) [.int .i64 b.id, .int .i64 b.st, .int .i64 b.snap, .int .i64 b.cs, .slice ra2 b.rs.length rc2, .slice wa2 b.ws.length wc2, .bool b.out, .string b.nm]) := BB0.out.below hb1
      clear hb1
      have x0 := BA1.out.c0
      have y0 := BB1.out.c0
      have x1 := BA1.out.c1
      have y1 := BB1.out.c1
      have x2 := BA1.out.c2
      have y2 := BB1.out.c2
      have x3 := BA1.out.c3
      have y3 := BB1.out.c3
      have x4 := BA1.out.c4
      have y4 := BB1.out.c4
      have x5 := BA1.out.c5
      have y5 := BB1.out.c5
      have x6 := BA1.out.c6
      have y6 := BB1.out.c6
      have x7 := BA1.out.c7
      have y7 := BB1.out.c7
      go_wp2_with fail
      refine (HT1.out _ HB1.out).mono ?_
      rintro e w2 ⟨rfl, hb2⟩
      have HB2 : Hid (Below w.heap.size w w2) := HB1.out.trans (hb2.mono HB1.out.size)
      have BA2 : Hid (Bx w2 w.heap.size [.int .i64 a.id, .int .i64 a.st, .int .i64 a.snap, .int .i64 a.cs, .slice ra a.rs.length rc, .slice wa a.ws.length wc, .bool a.out, .string a.nm]) := BA1.out.below hb2
      have BB2 : Hid (Bx w2 (w.heap.size + 1) [.int .i64 b.id, .int .i64 b.st, .int .i64 b.snap, .int .i64 b.cs, .slice ra2 b.rs.length rc2, .slice wa2 b.ws.length wc2, .bool b.out, .string b.nm]) := BB1.out.below hb2
      clear hb2
      clear x0 y0 x1 y1 x2 y2 x3 y3 x4 y4 x5 y5 x6 y6 x7 y7
      have x0 := BA2.out.c0
      have y0 := BB2.out.c0
      have x1 := BA2.out.c1
      have y1 := BB2.out.c1
      have x2 := BA2.out.c2
      have y2 := BB2.out.c2
      have x3 := BA2.out.c3
      have y3 := BB2.out.c3
      have x4 := BA2.out.c4
      have y4 := BB2.out.c4
      have x5 := BA2.out.c5
      have y5 := BB2.out.c5
      have x6 := BA2.out.c6
      have y6 := BB2.out.c6
      have x7 := BA2.out.c7
      have y7 := BB2.out.c7
      go_wp2_with fail
      refine (HM.out _ HB2.out).mono ?_
      rintro e w3 ⟨rfl, hb3⟩
      have HB3 : Hid (Below w.heap.size w w3) := HB2.out.trans (hb3.mono HB2.out.size)
      have BA3 : Hid (Bx w3 w.heap.size [.int .i64 a.id, .int .i64 a.st, .int .i64 a.snap, .int .i64 a.cs, .slice ra a.rs.length rc, .slice wa a.ws.length wc, .bool a.out, .string a.nm]) := BA2.out.below hb3
      have BB3 : Hid (Bx w3 (w.heap.size + 1) [.int .i64 b.id, .int .i64 b.st, .int .i64 b.snap, .int .i64 b.cs, .slice ra2 b.rs.length rc2, .slice wa2 b.ws.length wc2, .bool b.out, .string b.nm]) := BB2.out.below hb3
      clear hb3
      clear x0 y0 x1 y1 x2 y2 x3 y3 x4 y4 x5 y5 x6 y6 x7 y7
      have x0 := BA3.out.c0
      have y0 := BB3.out.c0
      have x1 := BA3.out.c1
      have y1 := BB3.out.c1
      have x2 := BA3.out.c2
      have y2 := BB3.out.c2
      have x3 := BA3.out.c3
      have y3 := BB3.out.c3
      have x4 := BA3.out.c4
      have y4 := BB3.out.c4
      have x5 := BA3.out.c5
      have y5 := BB3.out.c5
      have x6 := BA3.out.c6
      have y6 := BB3.out.c6
      have x7 := BA3.out.c7
      have y7 := BB3.out.c7
      go_wp2_with fail
      refine (H2.out _).mono ?_
      rintro e w4 ⟨rfl, hb4⟩
      have HB4 : Hid (Below w.heap.size w w4) := HB3.out.trans (hb4.mono HB3.out.size)
      have BA4 : Hid (Bx w4 w.heap.size [.int .i64 a.id, .int .i64 a.st, .int .i64 a.snap, .int .i64 a.cs, .slice ra a.rs.length rc, .slice wa a.ws.length wc, .bool a.out, .string a.nm]) := BA3.out.below hb4
      have BB4 : Hid (Bx w4 (w.heap.size + 1) [.int .i64 b.id, .int .i64 b.st, .int .i64 b.snap, .int .i64 b.cs, .slice ra2 b.rs.length rc2, .slice wa2 b.ws.length wc2, .bool b.out, .string b.nm]) := BB3.out.below hb4
      clear hb4
      clear x0 y0 x1 y1 x2 y2 x3 y3 x4 y4 x5 y5 x6 y6 x7 y7
      have x0 := BA4.out.c0
      have y0 := BB4.out.c0
      have x1 := BA4.out.c1
      have y1 := BB4.out.c1
      have x2 := BA4.out.c2
      have y2 := BB4.out.c2
      have x3 := BA4.out.c3
      have y3 := BB4.out.c3
      have x4 := BA4.out.c4
      have y4 := BB4.out.c4
      have x5 := BA4.out.c5
      have y5 := BB4.out.c5
      have x6 := BA4.out.c6
      have y6 := BB4.out.c6
      have x7 := BA4.out.c7
      have y7 := BB4.out.c7
      go_wp2
      go_ret
      exact ⟨ret_bool (by rw [EE.out]; simp), HB4.out⟩
   ·have e2 : decide (a.cs < b.cs) = false := by simp [hc]
    rw [e2] at EE
    clear hc
    by_cases hs2 : a.snap < b.cs
    ·have e3 : decide (a.snap < b.cs) = true := by simp [hs2]
     have q2 : seesB a b = false := by simp [seesB, hB]; omega
     rw [q2] at H2
     clear q2
     rw [e3] at EE
     clear hs2
     clear hA hB hI
     go_enter Tryz.func20, Tryz.ntmps20
     go_upto_region 3 with fail
     try simp only [List.append_eq, List.cons_append, List.nil_append]
     go_wp2_with fail
     refine (H1.out _).mono ?_
     rintro e w1 ⟨rfl, hb1⟩
     have HB1 : Hid (Below w.heap.size w w1) := HB0.out.trans (hb1.mono HB0.out.size)
     have BA1 : Hid (Bx w1 w.heap.size [.int .i64 a.id, .int .i64 a.st, .int .i64 a.snap, .int .i64 a.cs, .slice ra a.rs.length rc, .slice wa a.ws.length wc, .bool a.out, .string a.nm]) := BA0.out.below hb1
     have BB1 : Hid (Bx w1 (w.heap.size + 1) [.int .i64 b.id, .int .i64 b.st, .int .i64 b.snap, .int .i64 b.cs, .slice ra2 b.rs.length rc2, .slice wa2 b.ws.length wc2, .bool b.out, .string b.nm]) := BB0.out.below hb1
     clear hb1
     have x0 := BA1.out.c0
     have y0 := BB1.out.c0
     have x1 := BA1.out.c1
     have y1 := BB1.out.c1
     have x2 := BA1.out.c2
     have y2 := BB1.out.c2
     have x3 := BA1.out.c3
     have y3 := BB1.out.c3
     have x4 := BA1.out.c4
     have y4 := BB1.out.c4
     have x5 := BA1.out.c5
     have y5 := BB1.out.c5
     have x6 := BA1.out.c6
     have y6 := BB1.out.c6
     have x7 := BA1.out.c7
     have y7 := BB1.out.c7
     go_wp2_with fail
     refine (HT1.out _ HB1.out).mono ?_
     rintro e w2 ⟨rfl, hb2⟩
     have HB2 : Hid (Below w.heap.size w w2) := HB1.out.trans (hb2.mono HB1.out.size)
     have BA2 : Hid (Bx w2 w.heap.size [.int .i64 a.id, .int .i64 a.st, .int .i64 a.snap, .int .i64 a.cs, .slice ra a.rs.length rc, .slice wa a.ws.length wc, .bool a.out, .string a.nm]) := BA1.out.below hb2
     have BB2 : Hid (Bx w2 (w.heap.size + 1) [.int .i64 b.id, .int .i64 b.st, .int .i64 b.snap, .int .i64 b.cs, .slice ra2 b.rs.length rc2, .slice wa2 b.ws.length wc2, .bool b.out, .string b.nm]) := BB1.out.below hb2
     clear hb2
     clear x0 y0 x1 y1 x2 y2 x3 y3 x4 y4 x5 y5 x6 y6 x7 y7
     have x0 := BA2.out.c0
     have y0 := BB2.out.c0
     have x1 := BA2.out.c1
     have y1 := BB2.out.c1
     have x2 := BA2.out.c2
     have y2 := BB2.out.c2
     have x3 := BA2.out.c3
     have y3 := BB2.out.c3
     have x4 := BA2.out.c4
     have y4 := BB2.out.c4
     have x5 := BA2.out.c5
     have y5 := BB2.out.c5
     have x6 := BA2.out.c6
     have y6 := BB2.out.c6
     have x7 := BA2.out.c7
     have y7 := BB2.out.c7
     go_wp2_with fail
     refine (H2.out _).mono ?_
     rintro e w3 ⟨rfl, hb3⟩
     have HB3 : Hid (Below w.heap.size w w3) := HB2.out.trans (hb3.mono HB2.out.size)
     have BA3 : Hid (Bx w3 w.heap.size [.int .i64 a.id, .int .i64 a.st, .int .i64 a.snap, .int .i64 a.cs, .slice ra a.rs.length rc, .slice wa a.ws.length wc, .bool a.out, .string a.nm]) := BA2.out.below hb3
     have BB3 : Hid (Bx w3 (w.heap.size + 1) [.int .i64 b.id, .int .i64 b.st, .int .i64 b.snap, .int .i64 b.cs, .slice ra2 b.rs.length rc2, .slice wa2 b.ws.length wc2, .bool b.out, .string b.nm]) := BB2.out.below hb3
     clear hb3
     clear x0 y0 x1 y1 x2 y2 x3 y3 x4 y4 x5 y5 x6 y6 x7 y7
     have x0 := BA3.out.c0
     have y0 := BB3.out.c0
     have x1 := BA3.out.c1
     have y1 := BB3.out.c1
     have x2 := BA3.out.c2
     have y2 := BB3.out.c2
     have x3 := BA3.out.c3
     have y3 := BB3.out.c3
     have x4 := BA3.out.c4
     have y4 := BB3.out.c4
     have x5 := BA3.out.c5
     have y5 := BB3.out.c5
     have x6 := BA3.out.c6
     have y6 := BB3.out.c6
     have x7 := BA3.out.c7
     have y7 := BB3.out.c7
     go_wp2_with fail
     refine (HT2.out _ HB3.out).mono ?_
     rintro e w4 ⟨rfl, hb4⟩
     have HB4 : Hid (Below w.heap.size w w4) := HB3.out.trans (hb4.mono HB3.out.size)
     have BA4 : Hid (Bx w4 w.heap.size [.int .i64 a.id, .int .i64 a.st, .int .i64 a.snap, .int .i64 a.cs, .slice ra a.rs.length rc, .slice wa a.ws.length wc, .bool a.out, .string a.nm]) := BA3.out.below hb4
     have BB4 : Hid (Bx w4 (w.heap.size + 1) [.int .i64 b.id, .int .i64 b.st, .int .i64 b.snap, .int .i64 b.cs, .slice ra2 b.rs.length rc2, .slice wa2 b.ws.length wc2, .bool b.out, .string b.nm]) := BB3.out.below hb4
     clear hb4
     clear x0 y0 x1 y1 x2 y2 x3 y3 x4 y4 x5 y5 x6 y6 x7 y7
     have x0 := BA4.out.c0
     have y0 := BB4.out.c0
     have x1 := BA4.out.c1
     have y1 := BB4.out.c1
     have x2 := BA4.out.c2
     have y2 := BB4.out.c2
     have x3 := BA4.out.c3
     have y3 := BB4.out.c3
     have x4 := BA4.out.c4
     have y4 := BB4.out.c4
     have x5 := BA4.out.c5
     have y5 := BB4.out.c5
     have x6 := BA4.out.c6
     have y6 := BB4.out.c6
     have x7 := BA4.out.c7
     have y7 := BB4.out.c7
     go_wp2
     go_ret
     exact ⟨ret_bool (by rw [EE.out]; simp), HB4.out⟩
    ·have e3 : decide (a.snap < b.cs) = false := by simp [hs2]
     have q2 : seesB a b = true := by simp [seesB, hB]; omega
     rw [q2] at H2
     clear q2
     rw [e3] at EE
     clear hs2
     clear hA hB hI
     go_enter Tryz.func20, Tryz.ntmps20
     go_upto_region 3 with fail
     try simp only [List.append_eq, List.cons_append, List.nil_append]
     go_wp2_with fail
     refine (H1.out _).mono ?_
     rintro e w1 ⟨rfl, hb1⟩
     have HB1 : Hid (Below w.heap.size w w1) := HB0.out.trans (hb1.mono HB0.out.size)
     have BA1 : Hid (Bx w1 w.heap.size [.int .i64 a.id, .int .i64 a.st, .int .i64 a.snap, .int .i64 a.cs, .slice ra a.rs.length rc, .slice wa a.ws.length wc, .bool a.out, .string a.nm]) := BA0.out.below hb1
     have BB1 : Hid (Bx w1 (w.heap.size + 1) [.int .i64 b.id, .int .i64 b.st, .int .i64 b.snap, .int .i64 b.cs, .slice ra2 b.rs.length rc2, .slice wa2 b.ws.length wc2, .bool b.out, .string b.nm]) := BB0.out.below hb1
     clear hb1
     have x0 := BA1.out.c0
     have y0 := BB1.out.c0
     have x1 := BA1.out.c1
     have y1 := BB1.out.c1
     have x2 := BA1.out.c2
     have y2 := BB1.out.c2
     have x3 := BA1.out.c3
     have y3 := BB1.out.c3
     have x4 := BA1.out.c4
     have y4 := BB1.out.c4
     have x5 := BA1.out.c5
     have y5 := BB1.out.c5
     have x6 := BA1.out.c6
     have y6 := BB1.out.c6
     have x7 := BA1.out.c7
     have y7 := BB1.out.c7
     go_wp2_with fail
     refine (HT1.out _ HB1.out).mono ?_
     rintro e w2 ⟨rfl, hb2⟩
     have HB2 : Hid (Below w.heap.size w w2) := HB1.out.trans (hb2.mono HB1.out.size)
     have BA2 : Hid (Bx w2 w.heap.size [.int .i64 a.id, .int .i64 a.st, .int .i64 a.snap, .int .i64 a.cs, .slice ra a.rs.length rc, .slice wa a.ws.length wc, .bool a.out, .string a.nm]) := BA1.out.below hb2
     have BB2 : Hid (Bx w2 (w.heap.size + 1) [.int .i64 b.id, .int .i64 b.st, .int .i64 b.snap, .int .i64 b.cs, .slice ra2 b.rs.length rc2, .slice wa2 b.ws.length wc2, .bool b.out, .string b.nm]) := BB1.out.below hb2
     clear hb2
     clear x0 y0 x1 y1 x2 y2 x3 y3 x4 y4 x5 y5 x6 y6 x7 y7
     have x0 := BA2.out.c0
     have y0 := BB2.out.c0
     have x1 := BA2.out.c1
     have y1 := BB2.out.c1
     have x2 := BA2.out.c2
     have y2 := BB2.out.c2
     have x3 := BA2.out.c3
     have y3 := BB2.out.c3
     have x4 := BA2.out.c4
     have y4 := BB2.out.c4
     have x5 := BA2.out.c5
     have y5 := BB2.out.c5
     have x6 := BA2.out.c6
     have y6 := BB2.out.c6
     have x7 := BA2.out.c7
     have y7 := BB2.out.c7
     go_wp2_with fail
     refine (H2.out _).mono ?_
     rintro e w3 ⟨rfl, hb3⟩
     have HB3 : Hid (Below w.heap.size w w3) := HB2.out.trans (hb3.mono HB2.out.size)
     have BA3 : Hid (Bx w3 w.heap.size [.int .i64 a.id, .int .i64 a.st, .int .i64 a.snap, .int .i64 a.cs, .slice ra a.rs.length rc, .slice wa a.ws.length wc, .bool a.out, .string a.nm]) := BA2.out.below hb3
     have BB3 : Hid (Bx w3 (w.heap.size + 1) [.int .i64 b.id, .int .i64 b.st, .int .i64 b.snap, .int .i64 b.cs, .slice ra2 b.rs.length rc2, .slice wa2 b.ws.length wc2, .bool b.out, .string b.nm]) := BB2.out.below hb3
     clear hb3
     clear x0 y0 x1 y1 x2 y2 x3 y3 x4 y4 x5 y5 x6 y6 x7 y7
     have x0 := BA3.out.c0
     have y0 := BB3.out.c0
     have x1 := BA3.out.c1
     have y1 := BB3.out.c1
     have x2 := BA3.out.c2
     have y2 := BB3.out.c2
     have x3 := BA3.out.c3
     have y3 := BB3.out.c3
     have x4 := BA3.out.c4
     have y4 := BB3.out.c4
     have x5 := BA3.out.c5
     have y5 := BB3.out.c5
     have x6 := BA3.out.c6
     have y6 := BB3.out.c6
     have x7 := BA3.out.c7
     have y7 := BB3.out.c7
     go_wp2
     go_ret
     exact ⟨ret_bool (by rw [EE.out]; simp), HB3.out⟩
 ·have e1 : decide (a.cs ≤ b.snap) = false := by simp [hs1]
  have q1 : seesB b a = false := by simp [seesB, hA, hs1]
  rw [q1] at H1
  rw [e1] at EE
  clear hs1
  clear q1
  by_cases hc : a.cs < b.cs
  ·have e2 : decide (a.cs < b.cs) = true := by simp [hc]
   rw [e2] at EE
   clear hc
   rcases Bool.eq_false_or_eq_true (meetB a.ws b.ws) with hm | hm
   ·rw [hm] at HM EE
    clear hm
    clear hA hB hI
    go_enter Tryz.func20, Tryz.ntmps20
    go_upto_region 3 with fail
    try simp only [List.append_eq, List.cons_append, List.nil_append]
    go_wp2_with fail
    refine (H1.out _).mono ?_
    rintro e w1 ⟨rfl, hb1⟩
    have HB1 : Hid (Below w.heap.size w w1) := HB0.out.trans (hb1.mono HB0.out.size)
    have BA1 : Hid (Bx w1 w.heap.size [.int .i64 a.id, .int .i64 a.st, .int .i64 a.snap, .int .i64 a.cs, .slice ra a.rs.length rc, .slice wa a.ws.length wc, .bool a.out, .string a.nm]) := BA0.out.below hb1
    have BB1 : Hid (Bx w1 (w.heap.size + 1) [.int .i64 b.id, .int .i64 b.st, .int .i64 b.snap, .int .i64 b.cs, .slice ra2 b.rs.length rc2, .slice wa2 b.ws.length wc2, .bool b.out, .string b.nm]) := BB0.out.below hb1
    clear hb1
    have x0 := BA1.out.c0
    have y0 := BB1.out.c0
    have x1 := BA1.out.c1
    have y1 := BB1.out.c1
    have x2 := BA1.out.c2
    have y2 := BB1.out.c2
    have x3 := BA1.out.c3
    have y3 := BB1.out.c3
    have x4 := BA1.out.c4
    have y4 := BB1.out.c4
    have x5 := BA1.out.c5
    have y5 := BB1.out.c5
    have x6 := BA1.out.c6
    have y6 := BB1.out.c6
    have x7 := BA1.out.c7
    have y7 := BB1.out.c7
    go_wp2_with fail
    refine (HM.out _ HB1.out).mono ?_
    rintro e w2 ⟨rfl, hb2⟩
    have HB2 : Hid (Below w.heap.size w w2) := HB1.out.trans (hb2.mono HB1.out.size)
    have BA2 : Hid (Bx w2 w.heap.size [.int .i64 a.id, .int .i64 a.st, .int .i64 a.snap, .int .i64 a.cs, .slice ra a.rs.length rc, .slice wa a.ws.length wc, .bool a.out, .string a.nm]) := BA1.out.below hb2
    have BB2 : Hid (Bx w2 (w.heap.size + 1) [.int .i64 b.id, .int .i64 b.st, .int .i64 b.snap, .int .i64 b.cs, .slice ra2 b.rs.length rc2, .slice wa2 b.ws.length wc2, .bool b.out, .string b.nm]) := BB1.out.below hb2
    clear hb2
    clear x0 y0 x1 y1 x2 y2 x3 y3 x4 y4 x5 y5 x6 y6 x7 y7
    have x0 := BA2.out.c0
    have y0 := BB2.out.c0
    have x1 := BA2.out.c1
    have y1 := BB2.out.c1
    have x2 := BA2.out.c2
    have y2 := BB2.out.c2
    have x3 := BA2.out.c3
    have y3 := BB2.out.c3
    have x4 := BA2.out.c4
    have y4 := BB2.out.c4
    have x5 := BA2.out.c5
    have y5 := BB2.out.c5
    have x6 := BA2.out.c6
    have y6 := BB2.out.c6
    have x7 := BA2.out.c7
    have y7 := BB2.out.c7
    go_wp2
    go_ret
    exact ⟨ret_bool (by rw [EE.out]; simp), HB2.out⟩
   ·rw [hm] at HM EE
    clear hm
    by_cases hs2 : a.snap < b.cs
    ·have e3 : decide (a.snap < b.cs) = true := by simp [hs2]
     have q2 : seesB a b = false := by simp [seesB, hB]; omega
     rw [q2] at H2
     clear q2
     rw [e3] at EE
     clear hs2
     clear hA hB hI
     go_enter Tryz.func20, Tryz.ntmps20
     go_upto_region 3 with fail
     try simp only [List.append_eq, List.cons_append, List.nil_append]
     go_wp2_with fail
     refine (H1.out _).mono ?_
     rintro e w1 ⟨rfl, hb1⟩
     have HB1 : Hid (Below w.heap.size w w1) := HB0.out.trans (hb1.mono HB0.out.size)
     have BA1 : Hid (Bx w1 w.heap.size [.int .i64 a.id, .int .i64 a.st, .int .i64 a.snap, .int .i64 a.cs, .slice ra a.rs.length rc, .slice wa a.ws.length wc, .bool a.out, .string a.nm]) := BA0.out.below hb1
     have BB1 : Hid (Bx w1 (w.heap.size + 1) [.int .i64 b.id, .int .i64 b.st, .int .i64 b.snap, .int .i64 b.cs, .slice ra2 b.rs.length rc2, .slice wa2 b.ws.length wc2, .bool b.out, .string b.nm]) := BB0.out.below hb1
     clear hb1
     have x0 := BA1.out.c0
     have y0 := BB1.out.c0
     have x1 := BA1.out.c1
     have y1 := BB1.out.c1
     have x2 := BA1.out.c2
     have y2 := BB1.out.c2
     have x3 := BA1.out.c3
     have y3 := BB1.out.c3
     have x4 := BA1.out.c4
     have y4 := BB1.out.c4
     have x5 := BA1.out.c5
     have y5 := BB1.out.c5
     have x6 := BA1.out.c6
     have y6 := BB1.out.c6
     have x7 := BA1.out.c7
     have y7 := BB1.out.c7
     go_wp2_with fail
     refine (HM.out _ HB1.out).mono ?_
     rintro e w2 ⟨rfl, hb2⟩
     have HB2 : Hid (Below w.heap.size w w2) := HB1.out.trans (hb2.mono HB1.out.size)
     have BA2 : Hid (Bx w2 w.heap.size [.int .i64 a.id, .int .i64 a.st, .int .i64 a.snap, .int .i64 a.cs, .slice ra a.rs.length rc, .slice wa a.ws.length wc, .bool a.out, .string a.nm]) := BA1.out.below hb2
     have BB2 : Hid (Bx w2 (w.heap.size + 1) [.int .i64 b.id, .int .i64 b.st, .int .i64 b.snap, .int .i64 b.cs, .slice ra2 b.rs.length rc2, .slice wa2 b.ws.length wc2, .bool b.out, .string b.nm]) := BB1.out.below hb2
     clear hb2
     clear x0 y0 x1 y1 x2 y2 x3 y3 x4 y4 x5 y5 x6 y6 x7 y7
     have x0 := BA2.out.c0
     have y0 := BB2.out.c0
     have x1 := BA2.out.c1
     have y1 := BB2.out.c1
     have x2 := BA2.out.c2
     have y2 := BB2.out.c2
     have x3 := BA2.out.c3
     have y3 := BB2.out.c3
     have x4 := BA2.out.c4
     have y4 := BB2.out.c4
     have x5 := BA2.out.c5
     have y5 := BB2.out.c5
     have x6 := BA2.out.c6
     have y6 := BB2.out.c6
     have x7 := BA2.out.c7
     have y7 := BB2.out.c7
     go_wp2_with fail
     refine (H2.out _).mono ?_
     rintro e w3 ⟨rfl, hb3⟩
     have HB3 : Hid (Below w.heap.size w w3) := HB2.out.trans (hb3.mono HB2.out.size)
     have BA3 : Hid (Bx w3 w.heap.size [.int .i64 a.id, .int .i64 a.st, .int .i64 a.snap, .int .i64 a.cs, .slice ra a.rs.length rc, .slice wa a.ws.length wc, .bool a.out, .string a.nm]) := BA2.out.below hb3
     have BB3 : Hid (Bx w3 (w.heap.size + 1) [.int .i64 b.id, .int .i64 b.st, .int .i64 b.snap, .int .i64 b.cs, .slice ra2 b.rs.length rc2, .slice wa2 b.ws.length wc2, .bool b.out, .string b.nm]) := BB2.out.below hb3
     clear hb3
     clear x0 y0 x1 y1 x2 y2 x3 y3 x4 y4 x5 y5 x6 y6 x7 y7
     have x0 := BA3.out.c0
     have y0 := BB3.out.c0
     have x1 := BA3.out.c1
     have y1 := BB3.out.c1
     have x2 := BA3.out.c2
     have y2 := BB3.out.c2
     have x3 := BA3.out.c3
     have y3 := BB3.out.c3
     have x4 := BA3.out.c4
     have y4 := BB3.out.c4
     have x5 := BA3.out.c5
     have y5 := BB3.out.c5
     have x6 := BA3.out.c6
     have y6 := BB3.out.c6
     have x7 := BA3.out.c7
     have y7 := BB3.out.c7
     go_wp2_with fail
     refine (HT2.out _ HB3.out).mono ?_
     rintro e w4 ⟨rfl, hb4⟩
     have HB4 : Hid (Below w.heap.size w w4) := HB3.out.trans (hb4.mono HB3.out.size)
     have BA4 : Hid (Bx w4 w.heap.size [.int .i64 a.id, .int .i64 a.st, .int .i64 a.snap, .int .i64 a.cs, .slice ra a.rs.length rc, .slice wa a.ws.length wc, .bool a.out, .string a.nm]) := BA3.out.below hb4
     have BB4 : Hid (Bx w4 (w.heap.size + 1) [.int .i64 b.id, .int .i64 b.st, .int .i64 b.snap, .int .i64 b.cs, .slice ra2 b.rs.length rc2, .slice wa2 b.ws.length wc2, .bool b.out, .string b.nm]) := BB3.out.below hb4
     clear hb4
     clear x0 y0 x1 y1 x2 y2 x3 y3 x4 y4 x5 y5 x6 y6 x7 y7
     have x0 := BA4.out.c0
     have y0 := BB4.out.c0
     have x1 := BA4.out.c1
     have y1 := BB4.out.c1
     have x2 := BA4.out.c2
     have y2 := BB4.out.c2
     have x3 := BA4.out.c3
     have y3 := BB4.out.c3
     have x4 := BA4.out.c4
     have y4 := BB4.out.c4
     have x5 := BA4.out.c5
     have y5 := BB4.out.c5
     have x6 := BA4.out.c6
     have y6 := BB4.out.c6
     have x7 := BA4.out.c7
     have y7 := BB4.out.c7
     go_wp2
     go_ret
     exact ⟨ret_bool (by rw [EE.out]; simp), HB4.out⟩
    ·have e3 : decide (a.snap < b.cs) = false := by simp [hs2]
     have q2 : seesB a b = true := by simp [seesB, hB]; omega
     rw [q2] at H2
     clear q2
     rw [e3] at EE
     clear hs2
     clear hA hB hI
     go_enter Tryz.func20, Tryz.ntmps20
     go_upto_region 3 with fail
     try simp only [List.append_eq, List.cons_append, List.nil_append]
     go_wp2_with fail
     refine (H1.out _).mono ?_
     rintro e w1 ⟨rfl, hb1⟩
     have HB1 : Hid (Below w.heap.size w w1) := HB0.out.trans (hb1.mono HB0.out.size)
     have BA1 : Hid (Bx w1 w.heap.size [.int .i64 a.id, .int .i64 a.st, .int .i64 a.snap, .int .i64 a.cs, .slice ra a.rs.length rc, .slice wa a.ws.length wc, .bool a.out, .string a.nm]) := BA0.out.below hb1
     have BB1 : Hid (Bx w1 (w.heap.size + 1) [.int .i64 b.id, .int .i64 b.st, .int .i64 b.snap, .int .i64 b.cs, .slice ra2 b.rs.length rc2, .slice wa2 b.ws.length wc2, .bool b.out, .string b.nm]) := BB0.out.below hb1
     clear hb1
     have x0 := BA1.out.c0
     have y0 := BB1.out.c0
     have x1 := BA1.out.c1
     have y1 := BB1.out.c1
     have x2 := BA1.out.c2
     have y2 := BB1.out.c2
     have x3 := BA1.out.c3
     have y3 := BB1.out.c3
     have x4 := BA1.out.c4
     have y4 := BB1.out.c4
     have x5 := BA1.out.c5
     have y5 := BB1.out.c5
     have x6 := BA1.out.c6
     have y6 := BB1.out.c6
     have x7 := BA1.out.c7
     have y7 := BB1.out.c7
     go_wp2_with fail
     refine (HM.out _ HB1.out).mono ?_
     rintro e w2 ⟨rfl, hb2⟩
     have HB2 : Hid (Below w.heap.size w w2) := HB1.out.trans (hb2.mono HB1.out.size)
     have BA2 : Hid (Bx w2 w.heap.size [.int .i64 a.id, .int .i64 a.st, .int .i64 a.snap, .int .i64 a.cs, .slice ra a.rs.length rc, .slice wa a.ws.length wc, .bool a.out, .string a.nm]) := BA1.out.below hb2
     have BB2 : Hid (Bx w2 (w.heap.size + 1) [.int .i64 b.id, .int .i64 b.st, .int .i64 b.snap, .int .i64 b.cs, .slice ra2 b.rs.length rc2, .slice wa2 b.ws.length wc2, .bool b.out, .string b.nm]) := BB1.out.below hb2
     clear hb2
     clear x0 y0 x1 y1 x2 y2 x3 y3 x4 y4 x5 y5 x6 y6 x7 y7
     have x0 := BA2.out.c0
     have y0 := BB2.out.c0
     have x1 := BA2.out.c1
     have y1 := BB2.out.c1
     have x2 := BA2.out.c2
     have y2 := BB2.out.c2
     have x3 := BA2.out.c3
     have y3 := BB2.out.c3
     have x4 := BA2.out.c4
     have y4 := BB2.out.c4
     have x5 := BA2.out.c5
     have y5 := BB2.out.c5
     have x6 := BA2.out.c6
     have y6 := BB2.out.c6
     have x7 := BA2.out.c7
     have y7 := BB2.out.c7
     go_wp2_with fail
     refine (H2.out _).mono ?_
     rintro e w3 ⟨rfl, hb3⟩
     have HB3 : Hid (Below w.heap.size w w3) := HB2.out.trans (hb3.mono HB2.out.size)
     have BA3 : Hid (Bx w3 w.heap.size [.int .i64 a.id, .int .i64 a.st, .int .i64 a.snap, .int .i64 a.cs, .slice ra a.rs.length rc, .slice wa a.ws.length wc, .bool a.out, .string a.nm]) := BA2.out.below hb3
     have BB3 : Hid (Bx w3 (w.heap.size + 1) [.int .i64 b.id, .int .i64 b.st, .int .i64 b.snap, .int .i64 b.cs, .slice ra2 b.rs.length rc2, .slice wa2 b.ws.length wc2, .bool b.out, .string b.nm]) := BB2.out.below hb3
     clear hb3
     clear x0 y0 x1 y1 x2 y2 x3 y3 x4 y4 x5 y5 x6 y6 x7 y7
     have x0 := BA3.out.c0
     have y0 := BB3.out.c0
     have x1 := BA3.out.c1
     have y1 := BB3.out.c1
     have x2 := BA3.out.c2
     have y2 := BB3.out.c2
     have x3 := BA3.out.c3
     have y3 := BB3.out.c3
     have x4 := BA3.out.c4
     have y4 := BB3.out.c4
     have x5 := BA3.out.c5
     have y5 := BB3.out.c5
     have x6 := BA3.out.c6
     have y6 := BB3.out.c6
     have x7 := BA3.out.c7
     have y7 := BB3.out.c7
     go_wp2
     go_ret
     exact ⟨ret_bool (by rw [EE.out]; simp), HB3.out⟩
  ·have e2 : decide (a.cs < b.cs) = false := by simp [hc]
   rw [e2] at EE
   clear hc
   by_cases hs2 : a.snap < b.cs
   ·have e3 : decide (a.snap < b.cs) = true := by simp [hs2]
    have q2 : seesB a b = false := by simp [seesB, hB]; omega
    rw [q2] at H2
    clear q2
    rw [e3] at EE
    clear hs2
    clear hA hB hI
    go_enter Tryz.func20, Tryz.ntmps20
    go_upto_region 3 with fail
    try simp only [List.append_eq, List.cons_append, List.nil_append]
    go_wp2_with fail
    refine (H1.out _).mono ?_
    rintro e w1 ⟨rfl, hb1⟩
    have HB1 : Hid (Below w.heap.size w w1) := HB0.out.trans (hb1.mono HB0.out.size)
    have BA1 : Hid (Bx w1 w.heap.size [.int .i64 a.id, .int .i64 a.st, .int .i64 a.snap, .int .i64 a.cs, .slice ra a.rs.length rc, .slice wa a.ws.length wc, .bool a.out, .string a.nm]) := BA0.out.below hb1
    have BB1 : Hid (Bx w1 (w.heap.size + 1) [.int .i64 b.id, .int .i64 b.st, .int .i64 b.snap, .int .i64 b.cs, .slice ra2 b.rs.length rc2, .slice wa2 b.ws.length wc2, .bool b.out, .string b.nm]) := BB0.out.below hb1
    clear hb1
    have x0 := BA1.out.c0
    have y0 := BB1.out.c0
    have x1 := BA1.out.c1
    have y1 := BB1.out.c1
    have x2 := BA1.out.c2
    have y2 := BB1.out.c2
    have x3 := BA1.out.c3
    have y3 := BB1.out.c3
    have x4 := BA1.out.c4
    have y4 := BB1.out.c4
    have x5 := BA1.out.c5
    have y5 := BB1.out.c5
    have x6 := BA1.out.c6
    have y6 := BB1.out.c6
    have x7 := BA1.out.c7
    have y7 := BB1.out.c7
    go_wp2_with fail
    refine (H2.out _).mono ?_
    rintro e w2 ⟨rfl, hb2⟩
    have HB2 : Hid (Below w.heap.size w w2) := HB1.out.trans (hb2.mono HB1.out.size)
    have BA2 : Hid (Bx w2 w.heap.size [.int .i64 a.id, .int .i64 a.st, .int .i64 a.snap, .int .i64 a.cs, .slice ra a.rs.length rc, .slice wa a.ws.length wc, .bool a.out, .string a.nm]) := BA1.out.below hb2
    have BB2 : Hid (Bx w2 (w.heap.size + 1) [.int .i64 b.id, .int .i64 b.st, .int .i64 b.snap, .int .i64 b.cs, .slice ra2 b.rs.length rc2, .slice wa2 b.ws.length wc2, .bool b.out, .string b.nm]) := BB1.out.below hb2
    clear hb2
    clear x0 y0 x1 y1 x2 y2 x3 y3 x4 y4 x5 y5 x6 y6 x7 y7
    have x0 := BA2.out.c0
    have y0 := BB2.out.c0
    have x1 := BA2.out.c1
    have y1 := BB2.out.c1
    have x2 := BA2.out.c2
    have y2 := BB2.out.c2
    have x3 := BA2.out.c3
    have y3 := BB2.out.c3
    have x4 := BA2.out.c4
    have y4 := BB2.out.c4
    have x5 := BA2.out.c5
    have y5 := BB2.out.c5
    have x6 := BA2.out.c6
    have y6 := BB2.out.c6
    have x7 := BA2.out.c7
    have y7 := BB2.out.c7
    go_wp2_with fail
    refine (HT2.out _ HB2.out).mono ?_
    rintro e w3 ⟨rfl, hb3⟩
    have HB3 : Hid (Below w.heap.size w w3) := HB2.out.trans (hb3.mono HB2.out.size)
    have BA3 : Hid (Bx w3 w.heap.size [.int .i64 a.id, .int .i64 a.st, .int .i64 a.snap, .int .i64 a.cs, .slice ra a.rs.length rc, .slice wa a.ws.length wc, .bool a.out, .string a.nm]) := BA2.out.below hb3
    have BB3 : Hid (Bx w3 (w.heap.size + 1) [.int .i64 b.id, .int .i64 b.st, .int .i64 b.snap, .int .i64 b.cs, .slice ra2 b.rs.length rc2, .slice wa2 b.ws.length wc2, .bool b.out, .string b.nm]) := BB2.out.below hb3
    clear hb3
    clear x0 y0 x1 y1 x2 y2 x3 y3 x4 y4 x5 y5 x6 y6 x7 y7
    have x0 := BA3.out.c0
    have y0 := BB3.out.c0
    have x1 := BA3.out.c1
    have y1 := BB3.out.c1
    have x2 := BA3.out.c2
    have y2 := BB3.out.c2
    have x3 := BA3.out.c3
    have y3 := BB3.out.c3
    have x4 := BA3.out.c4
    have y4 := BB3.out.c4
    have x5 := BA3.out.c5
    have y5 := BB3.out.c5
    have x6 := BA3.out.c6
    have y6 := BB3.out.c6
    have x7 := BA3.out.c7
    have y7 := BB3.out.c7
    go_wp2
    go_ret
    exact ⟨ret_bool (by rw [EE.out]; simp), HB3.out⟩
   ·have e3 : decide (a.snap < b.cs) = false := by simp [hs2]
    have q2 : seesB a b = true := by simp [seesB, hB]; omega
    rw [q2] at H2
    clear q2
    rw [e3] at EE
    clear hs2
    clear hA hB hI
    go_enter Tryz.func20, Tryz.ntmps20
    go_upto_region 3 with fail
    try simp only [List.append_eq, List.cons_append, List.nil_append]
    go_wp2_with fail
    refine (H1.out _).mono ?_
    rintro e w1 ⟨rfl, hb1⟩
    have HB1 : Hid (Below w.heap.size w w1) := HB0.out.trans (hb1.mono HB0.out.size)
    have BA1 : Hid (Bx w1 w.heap.size [.int .i64 a.id, .int .i64 a.st, .int .i64 a.snap, .int .i64 a.cs, .slice ra a.rs.length rc, .slice wa a.ws.length wc, .bool a.out, .string a.nm]) := BA0.out.below hb1
    have BB1 : Hid (Bx w1 (w.heap.size + 1) [.int .i64 b.id, .int .i64 b.st, .int .i64 b.snap, .int .i64 b.cs, .slice ra2 b.rs.length rc2, .slice wa2 b.ws.length wc2, .bool b.out, .string b.nm]) := BB0.out.below hb1
    clear hb1
    have x0 := BA1.out.c0
    have y0 := BB1.out.c0
    have x1 := BA1.out.c1
    have y1 := BB1.out.c1
    have x2 := BA1.out.c2
    have y2 := BB1.out.c2
    have x3 := BA1.out.c3
    have y3 := BB1.out.c3
    have x4 := BA1.out.c4
    have y4 := BB1.out.c4
    have x5 := BA1.out.c5
    have y5 := BB1.out.c5
    have x6 := BA1.out.c6
    have y6 := BB1.out.c6
    have x7 := BA1.out.c7
    have y7 := BB1.out.c7
    go_wp2_with fail
    refine (H2.out _).mono ?_
    rintro e w2 ⟨rfl, hb2⟩
    have HB2 : Hid (Below w.heap.size w w2) := HB1.out.trans (hb2.mono HB1.out.size)
    have BA2 : Hid (Bx w2 w.heap.size [.int .i64 a.id, .int .i64 a.st, .int .i64 a.snap, .int .i64 a.cs, .slice ra a.rs.length rc, .slice wa a.ws.length wc, .bool a.out, .string a.nm]) := BA1.out.below hb2
    have BB2 : Hid (Bx w2 (w.heap.size + 1) [.int .i64 b.id, .int .i64 b.st, .int .i64 b.snap, .int .i64 b.cs, .slice ra2 b.rs.length rc2, .slice wa2 b.ws.length wc2, .bool b.out, .string b.nm]) := BB1.out.below hb2
    clear hb2
    clear x0 y0 x1 y1 x2 y2 x3 y3 x4 y4 x5 y5 x6 y6 x7 y7
    have x0 := BA2.out.c0
    have y0 := BB2.out.c0
    have x1 := BA2.out.c1
    have y1 := BB2.out.c1
    have x2 := BA2.out.c2
    have y2 := BB2.out.c2
    have x3 := BA2.out.c3
    have y3 := BB2.out.c3
    have x4 := BA2.out.c4
    have y4 := BB2.out.c4
    have x5 := BA2.out.c5
    have y5 := BB2.out.c5
    have x6 := BA2.out.c6
    have y6 := BB2.out.c6
    have x7 := BA2.out.c7
    have y7 := BB2.out.c7
    go_wp2
    go_ret
    exact ⟨ret_bool (by rw [EE.out]; simp), HB2.out⟩
set_option maxRecDepth 100000 in
set_option maxHeartbeats 20000000 in
theorem sbefore (a b : Tx) (ra wa : Option Addr) (rc wc : Nat) (ra2 wa2 : Option Addr) (rc2 wc2 : Nat) (har1 : a.rs.length ≤ 1048576) (haw1 : a.ws.length ≤ 1048576) (hbr1 : b.rs.length ≤ 1048576) (hbw1 : b.ws.length ≤ 1048576) (w : World) (har : GRow encR w ra a.rs) (haw : GRow encW w wa a.ws) (hbr : GRow encR w ra2 b.rs) (hbw : GRow encW w wa2 b.ws) :
  Calls Tryz.prog 21 #[.agg #[.int .i64 a.id, .int .i64 a.st, .int .i64 a.snap, .int .i64 a.cs, .slice ra a.rs.length rc, .slice wa a.ws.length wc, .bool a.out, .string a.nm], .agg #[.int .i64 b.id, .int .i64 b.st, .int .i64 b.snap, .int .i64 b.cs, .slice ra2 b.rs.length rc2, .slice wa2 b.ws.length wc2, .bool b.out, .string b.nm]] w fun e w' => e = .returned (.bool (befB a b)) ∧ Below w.heap.size w w' := by
 have HRA : Hid (GRow encR w ra a.rs) := har
 have HWA : Hid (GRow encW w wa a.ws) := haw
 have HRB : Hid (GRow encR w ra2 b.rs) := hbr
 have HWB : Hid (GRow encW w wa2 b.ws) := hbw
 clear har haw hbr hbw
 have HB0 : Hid (Below w.heap.size w ((w.alloc (.cells #[.int .i64 a.id, .int .i64 a.st, .int .i64 a.snap, .int .i64 a.cs, .slice ra a.rs.length rc, .slice wa a.ws.length wc, .bool a.out, .string a.nm] 30)).alloc (.cells #[.int .i64 b.id, .int .i64 b.st, .int .i64 b.snap, .int .i64 b.cs, .slice ra2 b.rs.length rc2, .slice wa2 b.ws.length wc2, .bool b.out, .string b.nm] 30))) := ((belowRefl w).alloc (Nat.le_refl _) _).alloc (by simp) _
 have BA0 : Hid (Bx ((w.alloc (.cells #[.int .i64 a.id, .int .i64 a.st, .int .i64 a.snap, .int .i64 a.cs, .slice ra a.rs.length rc, .slice wa a.ws.length wc, .bool a.out, .string a.nm] 30)).alloc (.cells #[.int .i64 b.id, .int .i64 b.st, .int .i64 b.snap, .int .i64 b.cs, .slice ra2 b.rs.length rc2, .slice wa2 b.ws.length wc2, .bool b.out, .string b.nm] 30)) w.heap.size [.int .i64 a.id, .int .i64 a.st, .int .i64 a.snap, .int .i64 a.cs, .slice ra a.rs.length rc, .slice wa a.ws.length wc, .bool a.out, .string a.nm]) := (Bx.new w [.int .i64 a.id, .int .i64 a.st, .int .i64 a.snap, .int .i64 a.cs, .slice ra a.rs.length rc, .slice wa a.ws.length wc, .bool a.out, .string a.nm] 30).alloc _
 have BB0 : Hid (Bx ((w.alloc (.cells #[.int .i64 a.id, .int .i64 a.st, .int .i64 a.snap, .int .i64 a.cs, .slice ra a.rs.length rc, .slice wa a.ws.length wc, .bool a.out, .string a.nm] 30)).alloc (.cells #[.int .i64 b.id, .int .i64 b.st, .int .i64 b.snap, .int .i64 b.cs, .slice ra2 b.rs.length rc2, .slice wa2 b.ws.length wc2, .bool b.out, .string b.nm] 30)) (w.heap.size + 1) [.int .i64 b.id, .int .i64 b.st, .int .i64 b.snap, .int .i64 b.cs, .slice ra2 b.rs.length rc2, .slice wa2 b.ws.length wc2, .bool b.out, .string b.nm]) := by have h := Bx.new (w.alloc (.cells #[.int .i64 a.id, .int .i64 a.st, .int .i64 a.snap, .int .i64 a.cs, .slice ra a.rs.length rc, .slice wa a.ws.length wc, .bool a.out, .string a.nm] 30)) [.int .i64 b.id, .int .i64 b.st, .int .i64 b.snap, .int .i64 b.cs, .slice ra2 b.rs.length rc2, .slice wa2 b.ws.length wc2, .bool b.out, .string b.nm] 30; simpa [Hid] using h
 by_cases hA : a.st = 3
 rotate_left
 ·have EE : Hid (befB a b = false) := by show _ = _; simp [befB, hA]
  by_cases hI : a.id = b.id
  ·skip
   have hI1 : (a.id != b.id) = false := by simp [hI]
   have hI2 : (a.id == b.id) = true := by simp [hI]
   have hI3 : decide (a.id = b.id) = true := by simp [hI]
   clear hA hI
   go_enter Tryz.func21, Tryz.ntmps21
   go_wp2
   go_ret
   exact ⟨ret_bool EE.out.symm, HB0.out⟩
  ·skip
   have hI1 : (a.id != b.id) = true := by simp [hI]
   have hI2 : (a.id == b.id) = false := by simp [hI]
   have hI3 : decide (a.id = b.id) = false := by simp [hI]
   have hA1 : (a.st != 3) = true := by simp [hA]
   have hA2 : (a.st == 3) = false := by simp [hA]
   have hA3 : decide (a.st = 3) = false := by simp [hA]
   clear hA hI
   go_enter Tryz.func21, Tryz.ntmps21
   go_wp2
   go_ret
   exact ⟨ret_bool EE.out.symm, HB0.out⟩
 by_cases hB : b.st = 3
 rotate_left
 ·have EE : Hid (befB a b = false) := by show _ = _; simp [befB, hB]
  by_cases hI : a.id = b.id
  ·skip
   have hI1 : (a.id != b.id) = false := by simp [hI]
   have hI2 : (a.id == b.id) = true := by simp [hI]
   have hI3 : decide (a.id = b.id) = true := by simp [hI]
   clear hA hB hI
   go_enter Tryz.func21, Tryz.ntmps21
   go_wp2
   go_ret
   exact ⟨ret_bool EE.out.symm, HB0.out⟩
  ·skip
   have hI1 : (a.id != b.id) = true := by simp [hI]
   have hI2 : (a.id == b.id) = false := by simp [hI]
   have hI3 : decide (a.id = b.id) = false := by simp [hI]
   have hA1 : (a.st != 3) = false := by simp [hA]
   have hA2 : (a.st == 3) = true := by simp [hA]
   have hA3 : decide (a.st = 3) = true := by simp [hA]
   have hB1 : (b.st != 3) = true := by simp [hB]
   have hB2 : (b.st == 3) = false := by simp [hB]
   have hB3 : decide (b.st = 3) = false := by simp [hB]
   clear hA hB hI
   go_enter Tryz.func21, Tryz.ntmps21
   go_wp2
   go_ret
   exact ⟨ret_bool EE.out.symm, HB0.out⟩
 by_cases hI : a.id = b.id
 ·have EE : Hid (befB a b = false) := by show _ = _; simp [befB, hI]
  have hI1 : (a.id != b.id) = false := by simp [hI]
  have hI2 : (a.id == b.id) = true := by simp [hI]
  have hI3 : decide (a.id = b.id) = true := by simp [hI]
  have hA1 : (a.st != 3) = false := by simp [hA]
  have hA2 : (a.st == 3) = true := by simp [hA]
  have hA3 : decide (a.st = 3) = true := by simp [hA]
  have hB1 : (b.st != 3) = false := by simp [hB]
  have hB2 : (b.st == 3) = true := by simp [hB]
  have hB3 : decide (b.st = 3) = true := by simp [hB]
  clear hA hB hI
  go_enter Tryz.func21, Tryz.ntmps21
  go_wp2
  go_ret
  exact ⟨ret_bool EE.out.symm, HB0.out⟩
 have EE : Hid (befB a b = (decide (a.cs ≤ b.snap) && touchB b.rs a.ws || decide (a.cs < b.cs) && meetB a.ws b.ws || decide (a.snap < b.cs) && touchB a.rs b.ws)) := by show _ = _; simp [befB, hA, hB, hI]
 have hI1 : (a.id != b.id) = true := by simp [hI]
 have hI2 : (a.id == b.id) = false := by simp [hI]
 have hI3 : decide (a.id = b.id) = false := by simp [hI]
 have hA1 : (a.st != 3) = false := by simp [hA]
 have hA2 : (a.st == 3) = true := by simp [hA]
 have hA3 : decide (a.st = 3) = true := by simp [hA]
 have hB1 : (b.st != 3) = false := by simp [hB]
 have hB2 : (b.st == 3) = true := by simp [hB]
 have hB3 : decide (b.st = 3) = true := by simp [hB]
 have HT1 : Hid (∀ w1, Below w.heap.size w w1 → _) := fun w1 h1 => stouch b.rs a.ws ra2 wa rc2 wc (Nat.le_trans hbr1 (by decide)) (Nat.le_trans haw1 (by decide)) w1 (HRB.out.below h1) (HWA.out.below h1)
 have HT2 : Hid (∀ w1, Below w.heap.size w w1 → _) := fun w1 h1 => stouch a.rs b.ws ra wa2 rc wc2 (Nat.le_trans har1 (by decide)) (Nat.le_trans hbw1 (by decide)) w1 (HRA.out.below h1) (HWB.out.below h1)
 have HM : Hid (∀ w1, Below w.heap.size w w1 → _) := fun w1 h1 => smeets a.ws b.ws wa wa2 wc wc2 (Nat.le_trans haw1 (by decide)) (Nat.le_trans hbw1 (by decide)) w1 (HWA.out.below h1) (HWB.out.below h1)
 by_cases hs1 : a.cs ≤ b.snap
 ·have e1 : decide (a.cs ≤ b.snap) = true := by simp [hs1]
  rw [e1] at EE
  clear hs1
  rcases Bool.eq_false_or_eq_true (touchB b.rs a.ws) with ht1 | ht1
  ·rw [ht1] at HT1 EE
   clear ht1
   clear hA hB hI
   go_enter Tryz.func21, Tryz.ntmps21
   go_wp2_with fail
   refine (HT1.out _ HB0.out).mono ?_
   rintro e w1 ⟨rfl, hb1⟩
   have HB1 : Hid (Below w.heap.size w w1) := HB0.out.trans (hb1.mono HB0.out.size)
   have BA1 : Hid (Bx w1 w.heap.size [.int .i64 a.id, .int .i64 a.st, .int .i64 a.snap, .int .i64 a.cs, .slice ra a.rs.length rc, .slice wa a.ws.length wc, .bool a.out, .string a.nm]) := BA0.out.below hb1
   have BB1 : Hid (Bx w1 (w.heap.size + 1) [.int .i64 b.id, .int .i64 b.st, .int .i64 b.snap, .int .i64 b.cs, .slice ra2 b.rs.length rc2, .slice wa2 b.ws.length wc2, .bool b.out, .string b.nm]) := BB0.out.below hb1
   clear hb1
   have x0 := BA1.out.c0
   have y0 := BB1.out.c0
   have x1 := BA1.out.c1
   have y1 := BB1.out.c1
   have x2 := BA1.out.c2
   have y2 := BB1.out.c2
   have x3 := BA1.out.c3
   have y3 := BB1.out.c3
   have x4 := BA1.out.c4
   have y4 := BB1.out.c4
   have x5 := BA1.out.c5
   have y5 := BB1.out.c5
   have x6 := BA1.out.c6
   have y6 := BB1.out.c6
   have x7 := BA1.out.c7
   have y7 := BB1.out.c7
   go_wp2
   go_ret
   exact ⟨ret_bool (by rw [EE.out]; simp), HB1.out⟩
  ·rw [ht1] at HT1 EE
   clear ht1
   by_cases hc : a.cs < b.cs
   ·have e2 : decide (a.cs < b.cs) = true := by simp [hc]
    rw [e2] at EE
    clear hc
    rcases Bool.eq_false_or_eq_true (meetB a.ws b.ws) with hm | hm
    ·rw [hm] at HM EE
     clear hm
     clear hA hB hI
     go_enter Tryz.func21, Tryz.ntmps21
     go_wp2_with fail
     refine (HT1.out _ HB0.out).mono ?_
     rintro e w1 ⟨rfl, hb1⟩
     have HB1 : Hid (Below w.heap.size w w1) := HB0.out.trans (hb1.mono HB0.out.size)
     have BA1 : Hid (Bx w1 w.heap.size [.int .i64 a.id, .int .i64 a.st, .int .i64 a.snap, .int .i64 a.cs, .slice ra a.rs.length rc, .slice wa a.ws.length wc, .bool a.out, .string a.nm]) := BA0.out.below hb1
     have BB1 : Hid (Bx w1 (w.heap.size + 1) [.int .i64 b.id, .int .i64 b.st, .int .i64 b.snap, .int .i64 b.cs, .slice ra2 b.rs.length rc2, .slice wa2 b.ws.length wc2, .bool b.out, .string b.nm]) := BB0.out.below hb1
     clear hb1
     have x0 := BA1.out.c0
     have y0 := BB1.out.c0
     have x1 := BA1.out.c1
     have y1 := BB1.out.c1
     have x2 := BA1.out.c2
     have y2 := BB1.out.c2
     have x3 := BA1.out.c3
     have y3 := BB1.out.c3
     have x4 := BA1.out.c4
     have y4 := BB1.out.c4
     have x5 := BA1.out.c5
     have y5 := BB1.out.c5
     have x6 := BA1.out.c6
     have y6 := BB1.out.c6
     have x7 := BA1.out.c7
     have y7 := BB1.out.c7
     go_wp2_with fail
     refine (HM.out _ HB1.out).mono ?_
     rintro e w2 ⟨rfl, hb2⟩
     have HB2 : Hid (Below w.heap.size w w2) := HB1.out.trans (hb2.mono HB1.out.size)
     have BA2 : Hid (Bx w2 w.heap.size [.int .i64 a.id, .int .i64 a.st, .int .i64 a.snap, .int .i64 a.cs, .slice ra a.rs.length rc, .slice wa a.ws.length wc, .bool a.out, .string a.nm]) := BA1.out.below hb2
     have BB2 : Hid (Bx w2 (w.heap.size + 1) [.int .i64 b.id, .int .i64 b.st, .int .i64 b.snap, .int .i64 b.cs, .slice ra2 b.rs.length rc2, .slice wa2 b.ws.length wc2, .bool b.out, .string b.nm]) := BB1.out.below hb2
     clear hb2
     clear x0 y0 x1 y1 x2 y2 x3 y3 x4 y4 x5 y5 x6 y6 x7 y7
     have x0 := BA2.out.c0
     have y0 := BB2.out.c0
     have x1 := BA2.out.c1
     have y1 := BB2.out.c1
     have x2 := BA2.out.c2
     have y2 := BB2.out.c2
     have x3 := BA2.out.c3
     have y3 := BB2.out.c3
     have x4 := BA2.out.c4
     have y4 := BB2.out.c4
     have x5 := BA2.out.c5
     have y5 := BB2.out.c5
     have x6 := BA2.out.c6
     have y6 := BB2.out.c6
     have x7 := BA2.out.c7
     have y7 := BB2.out.c7
     go_wp2
     go_ret
     exact ⟨ret_bool (by rw [EE.out]; simp), HB2.out⟩
    ·rw [hm] at HM EE
     clear hm
     by_cases hs2 : a.snap < b.cs
     ·have e3 : decide (a.snap < b.cs) = true := by simp [hs2]
      rw [e3] at EE
      clear hs2
      clear hA hB hI
      go_enter Tryz.func21, Tryz.ntmps21
      go_wp2_with fail
      refine (HT1.out _ HB0.out).mono ?_
      rintro e w1 ⟨rfl, hb1⟩
      have HB1 : Hid (Below w.heap.size w w1) := HB0.out.trans (hb1.mono HB0.out.size)
      have BA1 : Hid (Bx w1 w.heap.size [.int .i64 a.id, .int .i64 a.st, .int .i64 a.snap, .int .i64 a.cs, .slice ra a.rs.length rc, .slice wa a.ws.length wc, .bool a.out, .string a.nm]) := BA0.out.below hb1
      have BB1 : Hid (Bx w1 (w.heap.size + 1) [.int .i64 b.id, .int .i64 b.st, .int .i64 b.snap, .int .i64 b.cs, .slice ra2 b.rs.length rc2, .slice wa2 b.ws.length wc2, .bool b.out, .string b.nm]) := BB0.out.below hb1
      clear hb1
      have x0 := BA1.out.c0
      have y0 := BB1.out.c0
      have x1 := BA1.out.c1
      have y1 := BB1.out.c1
      have x2 := BA1.out.c2
      have y2 := BB1.out.c2
      have x3 := BA1.out.c3
      have y3 := BB1.out.c3
      have x4 := BA1.out.c4
      have y4 := BB1.out.c4
      have x5 := BA1.out.c5
      have y5 := BB1.out.c5
      have x6 := BA1.out.c6
      have y6 := BB1.out.c6
      have x7 := BA1.out.c7
      have y7 := BB1.out.c7
      go_wp2_with fail
      refine (HM.out _ HB1.out).mono ?_
      rintro e w2 ⟨rfl, hb2⟩
      have HB2 : Hid (Below w.heap.size w w2) := HB1.out.trans (hb2.mono HB1.out.size)
      have BA2 : Hid (Bx w2 w.heap.size [.int .i64 a.id, .int .i64 a.st, .int .i64 a.snap, .int .i64 a.cs, .slice ra a.rs.length rc, .slice wa a.ws.length wc, .bool a.out, .string a.nm]) := BA1.out.below hb2
      have BB2 : Hid (Bx w2 (w.heap.size + 1) [.int .i64 b.id, .int .i64 b.st, .int .i64 b.snap, .int .i64 b.cs, .slice ra2 b.rs.length rc2, .slice wa2 b.ws.length wc2, .bool b.out, .string b.nm]) := BB1.out.below hb2
      clear hb2
      clear x0 y0 x1 y1 x2 y2 x3 y3 x4 y4 x5 y5 x6 y6 x7 y7
      have x0 := BA2.out.c0
      have y0 := BB2.out.c0
      have x1 := BA2.out.c1
      have y1 := BB2.out.c1
      have x2 := BA2.out.c2
      have y2 := BB2.out.c2
      have x3 := BA2.out.c3
      have y3 := BB2.out.c3
      have x4 := BA2.out.c4
      have y4 := BB2.out.c4
      have x5 := BA2.out.c5
      have y5 := BB2.out.c5
      have x6 := BA2.out.c6
      have y6 := BB2.out.c6
      have x7 := BA2.out.c7
      have y7 := BB2.out.c7
      go_wp2_with fail
      refine (HT2.out _ HB2.out).mono ?_
      rintro e w3 ⟨rfl, hb3⟩
      have HB3 : Hid (Below w.heap.size w w3) := HB2.out.trans (hb3.mono HB2.out.size)
      have BA3 : Hid (Bx w3 w.heap.size [.int .i64 a.id, .int .i64 a.st, .int .i64 a.snap, .int .i64 a.cs, .slice ra a.rs.length rc, .slice wa a.ws.length wc, .bool a.out, .string a.nm]) := BA2.out.below hb3
      have BB3 : Hid (Bx w3 (w.heap.size + 1) [.int .i64 b.id, .int .i64 b.st, .int .i64 b.snap, .int .i64 b.cs, .slice ra2 b.rs.length rc2, .slice wa2 b.ws.length wc2, .bool b.out, .string b.nm]) := BB2.out.below hb3
      clear hb3
      clear x0 y0 x1 y1 x2 y2 x3 y3 x4 y4 x5 y5 x6 y6 x7 y7
      have x0 := BA3.out.c0
      have y0 := BB3.out.c0
      have x1 := BA3.out.c1
      have y1 := BB3.out.c1
      have x2 := BA3.out.c2
      have y2 := BB3.out.c2
      have x3 := BA3.out.c3
      have y3 := BB3.out.c3
      have x4 := BA3.out.c4
      have y4 := BB3.out.c4
      have x5 := BA3.out.c5
      have y5 := BB3.out.c5
      have x6 := BA3.out.c6
      have y6 := BB3.out.c6
      have x7 := BA3.out.c7
      have y7 := BB3.out.c7
      go_wp2
      go_ret
      exact ⟨ret_bool (by rw [EE.out]; simp), HB3.out⟩
     ·have e3 : decide (a.snap < b.cs) = false := by simp [hs2]
      rw [e3] at EE
      clear hs2
      clear hA hB hI
      go_enter Tryz.func21, Tryz.ntmps21
      go_wp2_with fail
      refine (HT1.out _ HB0.out).mono ?_
      rintro e w1 ⟨rfl, hb1⟩
      have HB1 : Hid (Below w.heap.size w w1) := HB0.out.trans (hb1.mono HB0.out.size)
      have BA1 : Hid (Bx w1 w.heap.size [.int .i64 a.id, .int .i64 a.st, .int .i64 a.snap, .int .i64 a.cs, .slice ra a.rs.length rc, .slice wa a.ws.length wc, .bool a.out, .string a.nm]) := BA0.out.below hb1
      have BB1 : Hid (Bx w1 (w.heap.size + 1) [.int .i64 b.id, .int .i64 b.st, .int .i64 b.snap, .int .i64 b.cs, .slice ra2 b.rs.length rc2, .slice wa2 b.ws.length wc2, .bool b.out, .string b.nm]) := BB0.out.below hb1
      clear hb1
      have x0 := BA1.out.c0
      have y0 := BB1.out.c0
      have x1 := BA1.out.c1
      have y1 := BB1.out.c1
      have x2 := BA1.out.c2
      have y2 := BB1.out.c2
      have x3 := BA1.out.c3
      have y3 := BB1.out.c3
      have x4 := BA1.out.c4
      have y4 := BB1.out.c4
      have x5 := BA1.out.c5
      have y5 := BB1.out.c5
      have x6 := BA1.out.c6
      have y6 := BB1.out.c6
      have x7 := BA1.out.c7
      have y7 := BB1.out.c7
      go_wp2_with fail
      refine (HM.out _ HB1.out).mono ?_
      rintro e w2 ⟨rfl, hb2⟩
      have HB2 : Hid (Below w.heap.size w w2) := HB1.out.trans (hb2.mono HB1.out.size)
      have BA2 : Hid (Bx w2 w.heap.size [.int .i64 a.id, .int .i64 a.st, .int .i64 a.snap, .int .i64 a.cs, .slice ra a.rs.length rc, .slice wa a.ws.length wc, .bool a.out, .string a.nm]) := BA1.out.below hb2
      have BB2 : Hid (Bx w2 (w.heap.size + 1) [.int .i64 b.id, .int .i64 b.st, .int .i64 b.snap, .int .i64 b.cs, .slice ra2 b.rs.length rc2, .slice wa2 b.ws.length wc2, .bool b.out, .string b.nm]) := BB1.out.below hb2
      clear hb2
      clear x0 y0 x1 y1 x2 y2 x3 y3 x4 y4 x5 y5 x6 y6 x7 y7
      have x0 := BA2.out.c0
      have y0 := BB2.out.c0
      have x1 := BA2.out.c1
      have y1 := BB2.out.c1
      have x2 := BA2.out.c2
      have y2 := BB2.out.c2
      have x3 := BA2.out.c3
      have y3 := BB2.out.c3
      have x4 := BA2.out.c4
      have y4 := BB2.out.c4
      have x5 := BA2.out.c5
      have y5 := BB2.out.c5
      have x6 := BA2.out.c6
      have y6 := BB2.out.c6
      have x7 := BA2.out.c7
      have y7 := BB2.out.c7
      go_wp2
      go_ret
      exact ⟨ret_bool (by rw [EE.out]; simp), HB2.out⟩
   ·have e2 : decide (a.cs < b.cs) = false := by simp [hc]
    rw [e2] at EE
    clear hc
    by_cases hs2 : a.snap < b.cs
    ·have e3 : decide (a.snap < b.cs) = true := by simp [hs2]
     rw [e3] at EE
     clear hs2
     clear hA hB hI
     go_enter Tryz.func21, Tryz.ntmps21
     go_wp2_with fail
     refine (HT1.out _ HB0.out).mono ?_
     rintro e w1 ⟨rfl, hb1⟩
     have HB1 : Hid (Below w.heap.size w w1) := HB0.out.trans (hb1.mono HB0.out.size)
     have BA1 : Hid (Bx w1 w.heap.size [.int .i64 a.id, .int .i64 a.st, .int .i64 a.snap, .int .i64 a.cs, .slice ra a.rs.length rc, .slice wa a.ws.length wc, .bool a.out, .string a.nm]) := BA0.out.below hb1
     have BB1 : Hid (Bx w1 (w.heap.size + 1) [.int .i64 b.id, .int .i64 b.st, .int .i64 b.snap, .int .i64 b.cs, .slice ra2 b.rs.length rc2, .slice wa2 b.ws.length wc2, .bool b.out, .string b.nm]) := BB0.out.below hb1
     clear hb1
     have x0 := BA1.out.c0
     have y0 := BB1.out.c0
     have x1 := BA1.out.c1
     have y1 := BB1.out.c1
     have x2 := BA1.out.c2
     have y2 := BB1.out.c2
     have x3 := BA1.out.c3
     have y3 := BB1.out.c3
     have x4 := BA1.out.c4
     have y4 := BB1.out.c4
     have x5 := BA1.out.c5
     have y5 := BB1.out.c5
     have x6 := BA1.out.c6
     have y6 := BB1.out.c6
     have x7 := BA1.out.c7
     have y7 := BB1.out.c7
     go_wp2_with fail
     refine (HT2.out _ HB1.out).mono ?_
     rintro e w2 ⟨rfl, hb2⟩
     have HB2 : Hid (Below w.heap.size w w2) := HB1.out.trans (hb2.mono HB1.out.size)
     have BA2 : Hid (Bx w2 w.heap.size [.int .i64 a.id, .int .i64 a.st, .int .i64 a.snap, .int .i64 a.cs, .slice ra a.rs.length rc, .slice wa a.ws.length wc, .bool a.out, .string a.nm]) := BA1.out.below hb2
     have BB2 : Hid (Bx w2 (w.heap.size + 1) [.int .i64 b.id, .int .i64 b.st, .int .i64 b.snap, .int .i64 b.cs, .slice ra2 b.rs.length rc2, .slice wa2 b.ws.length wc2, .bool b.out, .string b.nm]) := BB1.out.below hb2
     clear hb2
     clear x0 y0 x1 y1 x2 y2 x3 y3 x4 y4 x5 y5 x6 y6 x7 y7
     have x0 := BA2.out.c0
     have y0 := BB2.out.c0
     have x1 := BA2.out.c1
     have y1 := BB2.out.c1
     have x2 := BA2.out.c2
     have y2 := BB2.out.c2
     have x3 := BA2.out.c3
     have y3 := BB2.out.c3
     have x4 := BA2.out.c4
     have y4 := BB2.out.c4
     have x5 := BA2.out.c5
     have y5 := BB2.out.c5
     have x6 := BA2.out.c6
     have y6 := BB2.out.c6
     have x7 := BA2.out.c7
     have y7 := BB2.out.c7
     go_wp2
     go_ret
     exact ⟨ret_bool (by rw [EE.out]; simp), HB2.out⟩
    ·have e3 : decide (a.snap < b.cs) = false := by simp [hs2]
     rw [e3] at EE
     clear hs2
     clear hA hB hI
     go_enter Tryz.func21, Tryz.ntmps21
     go_wp2_with fail
     refine (HT1.out _ HB0.out).mono ?_
     rintro e w1 ⟨rfl, hb1⟩
     have HB1 : Hid (Below w.heap.size w w1) := HB0.out.trans (hb1.mono HB0.out.size)
     have BA1 : Hid (Bx w1 w.heap.size [.int .i64 a.id, .int .i64 a.st, .int .i64 a.snap, .int .i64 a.cs, .slice ra a.rs.length rc, .slice wa a.ws.length wc, .bool a.out, .string a.nm]) := BA0.out.below hb1
     have BB1 : Hid (Bx w1 (w.heap.size + 1) [.int .i64 b.id, .int .i64 b.st, .int .i64 b.snap, .int .i64 b.cs, .slice ra2 b.rs.length rc2, .slice wa2 b.ws.length wc2, .bool b.out, .string b.nm]) := BB0.out.below hb1
     clear hb1
     have x0 := BA1.out.c0
     have y0 := BB1.out.c0
     have x1 := BA1.out.c1
     have y1 := BB1.out.c1
     have x2 := BA1.out.c2
     have y2 := BB1.out.c2
     have x3 := BA1.out.c3
     have y3 := BB1.out.c3
     have x4 := BA1.out.c4
     have y4 := BB1.out.c4
     have x5 := BA1.out.c5
     have y5 := BB1.out.c5
     have x6 := BA1.out.c6
     have y6 := BB1.out.c6
     have x7 := BA1.out.c7
     have y7 := BB1.out.c7
     go_wp2
     go_ret
     exact ⟨ret_bool (by rw [EE.out]; simp), HB1.out⟩
 ·have e1 : decide (a.cs ≤ b.snap) = false := by simp [hs1]
  rw [e1] at EE
  clear hs1
  by_cases hc : a.cs < b.cs
  ·have e2 : decide (a.cs < b.cs) = true := by simp [hc]
   rw [e2] at EE
   clear hc
   rcases Bool.eq_false_or_eq_true (meetB a.ws b.ws) with hm | hm
   ·rw [hm] at HM EE
    clear hm
    clear hA hB hI
    go_enter Tryz.func21, Tryz.ntmps21
    go_wp2_with fail
    refine (HM.out _ HB0.out).mono ?_
    rintro e w1 ⟨rfl, hb1⟩
    have HB1 : Hid (Below w.heap.size w w1) := HB0.out.trans (hb1.mono HB0.out.size)
    have BA1 : Hid (Bx w1 w.heap.size [.int .i64 a.id, .int .i64 a.st, .int .i64 a.snap, .int .i64 a.cs, .slice ra a.rs.length rc, .slice wa a.ws.length wc, .bool a.out, .string a.nm]) := BA0.out.below hb1
    have BB1 : Hid (Bx w1 (w.heap.size + 1) [.int .i64 b.id, .int .i64 b.st, .int .i64 b.snap, .int .i64 b.cs, .slice ra2 b.rs.length rc2, .slice wa2 b.ws.length wc2, .bool b.out, .string b.nm]) := BB0.out.below hb1
    clear hb1
    have x0 := BA1.out.c0
    have y0 := BB1.out.c0
    have x1 := BA1.out.c1
    have y1 := BB1.out.c1
    have x2 := BA1.out.c2
    have y2 := BB1.out.c2
    have x3 := BA1.out.c3
    have y3 := BB1.out.c3
    have x4 := BA1.out.c4
    have y4 := BB1.out.c4
    have x5 := BA1.out.c5
    have y5 := BB1.out.c5
    have x6 := BA1.out.c6
    have y6 := BB1.out.c6
    have x7 := BA1.out.c7
    have y7 := BB1.out.c7
    go_wp2
    go_ret
    exact ⟨ret_bool (by rw [EE.out]; simp), HB1.out⟩
   ·rw [hm] at HM EE
    clear hm
    by_cases hs2 : a.snap < b.cs
    ·have e3 : decide (a.snap < b.cs) = true := by simp [hs2]
     rw [e3] at EE
     clear hs2
     clear hA hB hI
     go_enter Tryz.func21, Tryz.ntmps21
     go_wp2_with fail
     refine (HM.out _ HB0.out).mono ?_
     rintro e w1 ⟨rfl, hb1⟩
     have HB1 : Hid (Below w.heap.size w w1) := HB0.out.trans (hb1.mono HB0.out.size)
     have BA1 : Hid (Bx w1 w.heap.size [.int .i64 a.id, .int .i64 a.st, .int .i64 a.snap, .int .i64 a.cs, .slice ra a.rs.length rc, .slice wa a.ws.length wc, .bool a.out, .string a.nm]) := BA0.out.below hb1
     have BB1 : Hid (Bx w1 (w.heap.size + 1) [.int .i64 b.id, .int .i64 b.st, .int .i64 b.snap, .int .i64 b.cs, .slice ra2 b.rs.length rc2, .slice wa2 b.ws.length wc2, .bool b.out, .string b.nm]) := BB0.out.below hb1
     clear hb1
     have x0 := BA1.out.c0
     have y0 := BB1.out.c0
     have x1 := BA1.out.c1
     have y1 := BB1.out.c1
     have x2 := BA1.out.c2
     have y2 := BB1.out.c2
     have x3 := BA1.out.c3
     have y3 := BB1.out.c3
     have x4 := BA1.out.c4
     have y4 := BB1.out.c4
     have x5 := BA1.out.c5
     have y5 := BB1.out.c5
     have x6 := BA1.out.c6
     have y6 := BB1.out.c6
     have x7 := BA1.out.c7
     have y7 := BB1.out.c7
     go_wp2_with fail
     refine (HT2.out _ HB1.out).mono ?_
     rintro e w2 ⟨rfl, hb2⟩
     have HB2 : Hid (Below w.heap.size w w2) := HB1.out.trans (hb2.mono HB1.out.size)
     have BA2 : Hid (Bx w2 w.heap.size [.int .i64 a.id, .int .i64 a.st, .int .i64 a.snap, .int .i64 a.cs, .slice ra a.rs.length rc, .slice wa a.ws.length wc, .bool a.out, .string a.nm]) := BA1.out.below hb2
     have BB2 : Hid (Bx w2 (w.heap.size + 1) [.int .i64 b.id, .int .i64 b.st, .int .i64 b.snap, .int .i64 b.cs, .slice ra2 b.rs.length rc2, .slice wa2 b.ws.length wc2, .bool b.out, .string b.nm]) := BB1.out.below hb2
     clear hb2
     clear x0 y0 x1 y1 x2 y2 x3 y3 x4 y4 x5 y5 x6 y6 x7 y7
     have x0 := BA2.out.c0
     have y0 := BB2.out.c0
     have x1 := BA2.out.c1
     have y1 := BB2.out.c1
     have x2 := BA2.out.c2
     have y2 := BB2.out.c2
     have x3 := BA2.out.c3
     have y3 := BB2.out.c3
     have x4 := BA2.out.c4
     have y4 := BB2.out.c4
     have x5 := BA2.out.c5
     have y5 := BB2.out.c5
     have x6 := BA2.out.c6
     have y6 := BB2.out.c6
     have x7 := BA2.out.c7
     have y7 := BB2.out.c7
     go_wp2
     go_ret
     exact ⟨ret_bool (by rw [EE.out]; simp), HB2.out⟩
    ·have e3 : decide (a.snap < b.cs) = false := by simp [hs2]
     rw [e3] at EE
     clear hs2
     clear hA hB hI
     go_enter Tryz.func21, Tryz.ntmps21
     go_wp2_with fail
     refine (HM.out _ HB0.out).mono ?_
     rintro e w1 ⟨rfl, hb1⟩
     have HB1 : Hid (Below w.heap.size w w1) := HB0.out.trans (hb1.mono HB0.out.size)
     have BA1 : Hid (Bx w1 w.heap.size [.int .i64 a.id, .int .i64 a.st, .int .i64 a.snap, .int .i64 a.cs, .slice ra a.rs.length rc, .slice wa a.ws.length wc, .bool a.out, .string a.nm]) := BA0.out.below hb1
     have BB1 : Hid (Bx w1 (w.heap.size + 1) [.int .i64 b.id, .int .i64 b.st, .int .i64 b.snap, .int .i64 b.cs, .slice ra2 b.rs.length rc2, .slice wa2 b.ws.length wc2, .bool b.out, .string b.nm]) := BB0.out.below hb1
     clear hb1
     have x0 := BA1.out.c0
     have y0 := BB1.out.c0
     have x1 := BA1.out.c1
     have y1 := BB1.out.c1
     have x2 := BA1.out.c2
     have y2 := BB1.out.c2
     have x3 := BA1.out.c3
     have y3 := BB1.out.c3
     have x4 := BA1.out.c4
     have y4 := BB1.out.c4
     have x5 := BA1.out.c5
     have y5 := BB1.out.c5
     have x6 := BA1.out.c6
     have y6 := BB1.out.c6
     have x7 := BA1.out.c7
     have y7 := BB1.out.c7
     go_wp2
     go_ret
     exact ⟨ret_bool (by rw [EE.out]; simp), HB1.out⟩
  ·have e2 : decide (a.cs < b.cs) = false := by simp [hc]
   rw [e2] at EE
   clear hc
   by_cases hs2 : a.snap < b.cs
   ·have e3 : decide (a.snap < b.cs) = true := by simp [hs2]
    rw [e3] at EE
    clear hs2
    clear hA hB hI
    go_enter Tryz.func21, Tryz.ntmps21
    go_wp2_with fail
    refine (HT2.out _ HB0.out).mono ?_
    rintro e w1 ⟨rfl, hb1⟩
    have HB1 : Hid (Below w.heap.size w w1) := HB0.out.trans (hb1.mono HB0.out.size)
    have BA1 : Hid (Bx w1 w.heap.size [.int .i64 a.id, .int .i64 a.st, .int .i64 a.snap, .int .i64 a.cs, .slice ra a.rs.length rc, .slice wa a.ws.length wc, .bool a.out, .string a.nm]) := BA0.out.below hb1
    have BB1 : Hid (Bx w1 (w.heap.size + 1) [.int .i64 b.id, .int .i64 b.st, .int .i64 b.snap, .int .i64 b.cs, .slice ra2 b.rs.length rc2, .slice wa2 b.ws.length wc2, .bool b.out, .string b.nm]) := BB0.out.below hb1
    clear hb1
    have x0 := BA1.out.c0
    have y0 := BB1.out.c0
    have x1 := BA1.out.c1
    have y1 := BB1.out.c1
    have x2 := BA1.out.c2
    have y2 := BB1.out.c2
    have x3 := BA1.out.c3
    have y3 := BB1.out.c3
    have x4 := BA1.out.c4
    have y4 := BB1.out.c4
    have x5 := BA1.out.c5
    have y5 := BB1.out.c5
    have x6 := BA1.out.c6
    have y6 := BB1.out.c6
    have x7 := BA1.out.c7
    have y7 := BB1.out.c7
    go_wp2
    go_ret
    exact ⟨ret_bool (by rw [EE.out]; simp), HB1.out⟩
   ·have e3 : decide (a.snap < b.cs) = false := by simp [hs2]
    rw [e3] at EE
    clear hs2
    clear hA hB hI
    go_enter Tryz.func21, Tryz.ntmps21
    go_wp2
    go_ret
    exact ⟨ret_bool (by rw [EE.out]; simp), HB0.out⟩

end Go.Proofs.YtbajpnbodhhmjaaGreat
