/- What RecordOk answers: the program's, and the document's. -/
import Derived.Test.YtpnnncfbodfnhaaGreatDoorPd21
import Derived.Test.YtpnnncfbodfnhaaGreatDoorPd19
import Derived.Test.YtpnnncfbodfnhaaGreatDoorPd20
namespace Go.Proofs.YtpnnncfbodfnhaaGreatDoor
open Go.RowKit
open KM
attribute [local go_sem ↓] Go.wp_at_zero Go.wp_at_succ

set_option maxRecDepth 100000 in
set_option maxHeartbeats 2000000 in
theorem srec1 (r : Rc) (hk : r.k = 1) (hf : RcFit r) (w : World) (hp : RcRows w r) :
  Calls Tryz.prog 16 #[.agg #[.int .i64 r.k, .int .i64 r.t.t.id, .int .i64 r.t.t.st, .int .i64 r.t.t.snap, .int .i64 r.t.t.cs, .slice r.t.ra r.t.t.rs.length r.t.rc, .slice r.t.wa r.t.t.ws.length r.t.wc, .bool r.t.t.out, .string r.t.t.nm, .string r.nm, .bool r.yes, .slice r.b.va r.b.vs.length r.b.vc, .slice r.b.pa r.b.ps.length r.b.pc, .slice r.b.qa r.b.qs.length r.b.qc, .int .i64 r.b.cs, .int .i64 r.b.nx]] w fun e w' => e = .returned (.bool (recB r)) ∧ Below w.heap.size w w' := by
 have BX0 : Hid (Bx (w.alloc (.cells #[.int .i64 r.k, .int .i64 r.t.t.id, .int .i64 r.t.t.st, .int .i64 r.t.t.snap, .int .i64 r.t.t.cs, .slice r.t.ra r.t.t.rs.length r.t.rc, .slice r.t.wa r.t.t.ws.length r.t.wc, .bool r.t.t.out, .string r.t.t.nm, .string r.nm, .bool r.yes, .slice r.b.va r.b.vs.length r.b.vc, .slice r.b.pa r.b.ps.length r.b.pc, .slice r.b.qa r.b.qs.length r.b.qc, .int .i64 r.b.cs, .int .i64 r.b.nx] 44)) w.heap.size [.int .i64 r.k, .int .i64 r.t.t.id, .int .i64 r.t.t.st, .int .i64 r.t.t.snap, .int .i64 r.t.t.cs, .slice r.t.ra r.t.t.rs.length r.t.rc, .slice r.t.wa r.t.t.ws.length r.t.wc, .bool r.t.t.out, .string r.t.t.nm, .string r.nm, .bool r.yes, .slice r.b.va r.b.vs.length r.b.vc, .slice r.b.pa r.b.ps.length r.b.pc, .slice r.b.qa r.b.qs.length r.b.qc, .int .i64 r.b.cs, .int .i64 r.b.nx]) := Bx.new w [.int .i64 r.k, .int .i64 r.t.t.id, .int .i64 r.t.t.st, .int .i64 r.t.t.snap, .int .i64 r.t.t.cs, .slice r.t.ra r.t.t.rs.length r.t.rc, .slice r.t.wa r.t.t.ws.length r.t.wc, .bool r.t.t.out, .string r.t.t.nm, .string r.nm, .bool r.yes, .slice r.b.va r.b.vs.length r.b.vc, .slice r.b.pa r.b.ps.length r.b.pc, .slice r.b.qa r.b.qs.length r.b.qc, .int .i64 r.b.cs, .int .i64 r.b.nx] 44
 have HB0 : Hid (Below w.heap.size w (w.alloc (.cells #[.int .i64 r.k, .int .i64 r.t.t.id, .int .i64 r.t.t.st, .int .i64 r.t.t.snap, .int .i64 r.t.t.cs, .slice r.t.ra r.t.t.rs.length r.t.rc, .slice r.t.wa r.t.t.ws.length r.t.wc, .bool r.t.t.out, .string r.t.t.nm, .string r.nm, .bool r.yes, .slice r.b.va r.b.vs.length r.b.vc, .slice r.b.pa r.b.ps.length r.b.pc, .slice r.b.qa r.b.qs.length r.b.qc, .int .i64 r.b.cs, .int .i64 r.b.nx] 44))) := (belowRefl w).alloc (Nat.le_refl _) _
 have CI : Hid (∀ W, Calls Tryz.prog 47 #[.int .i64 r.k, .int .i64 1, .int .i64 4] W fun e w' => e = .returned (.bool true) ∧ w' = W) := fun W => in57 r.k 1 4 true (by rw [hk]; decide) W
 have CT : Hid (∀ W, Below w.heap.size w W → Calls Tryz.prog 48 #[.agg #[.int .i64 r.t.t.id, .int .i64 r.t.t.st, .int .i64 r.t.t.snap, .int .i64 r.t.t.cs, .slice r.t.ra r.t.t.rs.length r.t.rc, .slice r.t.wa r.t.t.ws.length r.t.wc, .bool r.t.t.out, .string r.t.t.nm]] W fun e w' => e = .returned (.bool (txnB r.t.t)) ∧ Below W.heap.size W w') := fun W h => stxn r.t.t r.t.ra r.t.wa r.t.rc r.t.wc hf.t W (hp.t.below h)
 have CB : Hid (∀ W, Below w.heap.size w W → Calls Tryz.prog 52 #[.agg #[.slice r.b.va r.b.vs.length r.b.vc, .slice r.b.pa r.b.ps.length r.b.pc, .slice r.b.qa r.b.qs.length r.b.qc, .int .i64 r.b.cs, .int .i64 r.b.nx]] W fun e w' => e = .returned (.bool (noB r.b)) ∧ Below W.heap.size W w') := fun W h => snoB r.b W
 have e1 : (r.k == 1) = true := by simp [hk]
 have g1 : (r.k != 1) = false := by simp [hk]
 have e2 : (r.k == 2) = false := by simp [hk]
 have g2 : (r.k != 2) = true := by simp [hk]
 have e3 : (r.k == 3) = false := by simp [hk]
 have g3 : (r.k != 3) = true := by simp [hk]
 have e4 : (r.k == 4) = false := by simp [hk]
 have g4 : (r.k != 4) = true := by simp [hk]
 clear hp hf
 cases h0 : txnB r.t.t
 ·have HN : Hid (recB r = false) := by show _ = _; unfold recB; simp [hk, h0]
  clear hk
  generalize recB r = rb at *
  rw [h0] at CT
  clear h0
  go_enter Tryz.func16, Tryz.ntmps16
  go_wp2_with fail
  refine (CI.out _).mono ?_
  rintro e w0 ⟨rfl, rfl⟩
  go_wp2_with fail
  refine (CT.out _ HB0.out).mono ?_
  rintro e w1 ⟨rfl, hb⟩
  have BX1 : Hid (Bx w1 w.heap.size [.int .i64 r.k, .int .i64 r.t.t.id, .int .i64 r.t.t.st, .int .i64 r.t.t.snap, .int .i64 r.t.t.cs, .slice r.t.ra r.t.t.rs.length r.t.rc, .slice r.t.wa r.t.t.ws.length r.t.wc, .bool r.t.t.out, .string r.t.t.nm, .string r.nm, .bool r.yes, .slice r.b.va r.b.vs.length r.b.vc, .slice r.b.pa r.b.ps.length r.b.pc, .slice r.b.qa r.b.qs.length r.b.qc, .int .i64 r.b.cs, .int .i64 r.b.nx]) := BX0.out.below hb
  have HB1 : Hid (Below w.heap.size w w1) := HB0.out.trans (hb.mono HB0.out.size)
  clear hb BX0 HB0
  have x0 := BX1.out.c0
  have x1 := BX1.out.c1
  have x2 := BX1.out.c2
  have x3 := BX1.out.c3
  have x4 := BX1.out.c4
  have x5 := BX1.out.c5
  have x6 := BX1.out.c6
  have x7 := BX1.out.c7
  have x8 := BX1.out.c8
  have x9 := BX1.out.c9
  have x10 := BX1.out.c10
  have x11 := BX1.out.c11
  have x12 := BX1.out.c12
  have x13 := BX1.out.c13
  have x14 := BX1.out.c14
  have x15 := BX1.out.c15
  go_wp2
  go_ret
  exact ⟨ret_bool HN.out.symm, HB1.out⟩
 ·rw [h0] at CT
  by_cases h1 : r.t.t.st = 3
  rotate_left
  ·have s5 : (r.t.t.st != 3) = true := by simp [h1]
   have HN : Hid (recB r = false) := by show _ = _; unfold recB; simp [hk, h0, h1]
   clear hk
   clear h1
   generalize recB r = rb at *
   go_enter Tryz.func16, Tryz.ntmps16
   go_wp2_with fail
   refine (CI.out _).mono ?_
   rintro e w0 ⟨rfl, rfl⟩
   go_wp2_with fail
   refine (CT.out _ HB0.out).mono ?_
   rintro e w1 ⟨rfl, hb⟩
   have BX1 : Hid (Bx w1 w.heap.size [.int .i64 r.k, .int .i64 r.t.t.id, .int .i64 r.t.t.st, .int .i64 r.t.t.snap, .int .i64 r.t.t.cs, .slice r.t.ra r.t.t.rs.length r.t.rc, .slice r.t.wa r.t.t.ws.length r.t.wc, .bool r.t.t.out, .string r.t.t.nm, .string r.nm, .bool r.yes, .slice r.b.va r.b.vs.length r.b.vc, .slice r.b.pa r.b.ps.length r.b.pc, .slice r.b.qa r.b.qs.length r.b.qc, .int .i64 r.b.cs, .int .i64 r.b.nx]) := BX0.out.below hb
   have HB1 : Hid (Below w.heap.size w w1) := HB0.out.trans (hb.mono HB0.out.size)
   clear hb BX0 HB0
   have x0 := BX1.out.c0
   have x1 := BX1.out.c1
   have x2 := BX1.out.c2
   have x3 := BX1.out.c3
   have x4 := BX1.out.c4
   have x5 := BX1.out.c5
   have x6 := BX1.out.c6
   have x7 := BX1.out.c7
   have x8 := BX1.out.c8
   have x9 := BX1.out.c9
   have x10 := BX1.out.c10
   have x11 := BX1.out.c11
   have x12 := BX1.out.c12
   have x13 := BX1.out.c13
   have x14 := BX1.out.c14
   have x15 := BX1.out.c15
   go_wp2
   go_ret
   exact ⟨ret_bool HN.out.symm, HB1.out⟩
  ·have s5 : (r.t.t.st != 3) = false := by simp [h1]
   cases h2 : r.nm.toList.isEmpty
   ·have HN : Hid (recB r = false) := by show _ = _; unfold recB; simp [hk, h0, h1, h2]
    clear hk
    clear h1
    generalize recB r = rb at *
    go_enter Tryz.func16, Tryz.ntmps16
    go_wp2_with fail
    refine (CI.out _).mono ?_
    rintro e w0 ⟨rfl, rfl⟩
    go_wp2_with fail
    refine (CT.out _ HB0.out).mono ?_
    rintro e w1 ⟨rfl, hb⟩
    have BX1 : Hid (Bx w1 w.heap.size [.int .i64 r.k, .int .i64 r.t.t.id, .int .i64 r.t.t.st, .int .i64 r.t.t.snap, .int .i64 r.t.t.cs, .slice r.t.ra r.t.t.rs.length r.t.rc, .slice r.t.wa r.t.t.ws.length r.t.wc, .bool r.t.t.out, .string r.t.t.nm, .string r.nm, .bool r.yes, .slice r.b.va r.b.vs.length r.b.vc, .slice r.b.pa r.b.ps.length r.b.pc, .slice r.b.qa r.b.qs.length r.b.qc, .int .i64 r.b.cs, .int .i64 r.b.nx]) := BX0.out.below hb
    have HB1 : Hid (Below w.heap.size w w1) := HB0.out.trans (hb.mono HB0.out.size)
    clear hb BX0 HB0
    have x0 := BX1.out.c0
    have x1 := BX1.out.c1
    have x2 := BX1.out.c2
    have x3 := BX1.out.c3
    have x4 := BX1.out.c4
    have x5 := BX1.out.c5
    have x6 := BX1.out.c6
    have x7 := BX1.out.c7
    have x8 := BX1.out.c8
    have x9 := BX1.out.c9
    have x10 := BX1.out.c10
    have x11 := BX1.out.c11
    have x12 := BX1.out.c12
    have x13 := BX1.out.c13
    have x14 := BX1.out.c14
    have x15 := BX1.out.c15
    go_wp2
    go_ret
    exact ⟨ret_bool HN.out.symm, HB1.out⟩
   ·rcases Bool.eq_false_or_eq_true r.yes with h3 | h3
    ·have HN : Hid (recB r = false) := by show _ = _; unfold recB; simp [hk, h0, h1, h2, h3]
     clear hk
     have HY := hide h3
     clear h3
     clear h1
     generalize recB r = rb at *
     go_enter Tryz.func16, Tryz.ntmps16
     go_wp2_with fail
     refine (CI.out _).mono ?_
     rintro e w0 ⟨rfl, rfl⟩
     go_wp2_with fail
     refine (CT.out _ HB0.out).mono ?_
     rintro e w1 ⟨rfl, hb⟩
     have BX1 : Hid (Bx w1 w.heap.size [.int .i64 r.k, .int .i64 r.t.t.id, .int .i64 r.t.t.st, .int .i64 r.t.t.snap, .int .i64 r.t.t.cs, .slice r.t.ra r.t.t.rs.length r.t.rc, .slice r.t.wa r.t.t.ws.length r.t.wc, .bool r.t.t.out, .string r.t.t.nm, .string r.nm, .bool r.yes, .slice r.b.va r.b.vs.length r.b.vc, .slice r.b.pa r.b.ps.length r.b.pc, .slice r.b.qa r.b.qs.length r.b.qc, .int .i64 r.b.cs, .int .i64 r.b.nx]) := BX0.out.below hb
     have HB1 : Hid (Below w.heap.size w w1) := HB0.out.trans (hb.mono HB0.out.size)
     clear hb BX0 HB0
     have x0 := BX1.out.c0
     have x1 := BX1.out.c1
     have x2 := BX1.out.c2
     have x3 := BX1.out.c3
     have x4 := BX1.out.c4
     have x5 := BX1.out.c5
     have x6 := BX1.out.c6
     have x7 := BX1.out.c7
     have x8 := BX1.out.c8
     have x9 := BX1.out.c9
     have x10 := BX1.out.c10
     have x11 := BX1.out.c11
     have x12 := BX1.out.c12
     have x13 := BX1.out.c13
     have x14 := BX1.out.c14
     have x15 := BX1.out.c15
     rw [HY.out] at x10
     go_wp2
     go_ret
     exact ⟨ret_bool HN.out.symm, HB1.out⟩
    ·have HN : Hid (recB r = (noB r.b)) := by show _ = _; unfold recB; simp [hk, h0, h1, h2, h3]
     clear hk
     have HY := hide h3
     clear h3
     clear h1
     generalize recB r = rb at *
     generalize (noB r.b) = vv at *
     go_enter Tryz.func16, Tryz.ntmps16
     go_wp2_with fail
     refine (CI.out _).mono ?_
     rintro e w0 ⟨rfl, rfl⟩
     go_wp2_with fail
     refine (CT.out _ HB0.out).mono ?_
     rintro e w1 ⟨rfl, hb⟩
     have BX1 : Hid (Bx w1 w.heap.size [.int .i64 r.k, .int .i64 r.t.t.id, .int .i64 r.t.t.st, .int .i64 r.t.t.snap, .int .i64 r.t.t.cs, .slice r.t.ra r.t.t.rs.length r.t.rc, .slice r.t.wa r.t.t.ws.length r.t.wc, .bool r.t.t.out, .string r.t.t.nm, .string r.nm, .bool r.yes, .slice r.b.va r.b.vs.length r.b.vc, .slice r.b.pa r.b.ps.length r.b.pc, .slice r.b.qa r.b.qs.length r.b.qc, .int .i64 r.b.cs, .int .i64 r.b.nx]) := BX0.out.below hb
     have HB1 : Hid (Below w.heap.size w w1) := HB0.out.trans (hb.mono HB0.out.size)
     clear hb BX0 HB0
     have x0 := BX1.out.c0
     have x1 := BX1.out.c1
     have x2 := BX1.out.c2
     have x3 := BX1.out.c3
     have x4 := BX1.out.c4
     have x5 := BX1.out.c5
     have x6 := BX1.out.c6
     have x7 := BX1.out.c7
     have x8 := BX1.out.c8
     have x9 := BX1.out.c9
     have x10 := BX1.out.c10
     have x11 := BX1.out.c11
     have x12 := BX1.out.c12
     have x13 := BX1.out.c13
     have x14 := BX1.out.c14
     have x15 := BX1.out.c15
     rw [HY.out] at x10
     go_wp2_with fail
     refine (CB.out _ HB1.out).mono ?_
     rintro e w3 ⟨rfl, hb⟩
     have HB2 : Hid (Below w.heap.size w w3) := HB1.out.trans (hb.mono HB1.out.size)
     clear hb
     go_wp2
     go_ret
     exact ⟨ret_bool HN.out.symm, HB2.out⟩

set_option maxRecDepth 100000 in
set_option maxHeartbeats 2000000 in
theorem srec2 (r : Rc) (hk : r.k = 2) (hf : RcFit r) (w : World) (hp : RcRows w r) :
  Calls Tryz.prog 16 #[.agg #[.int .i64 r.k, .int .i64 r.t.t.id, .int .i64 r.t.t.st, .int .i64 r.t.t.snap, .int .i64 r.t.t.cs, .slice r.t.ra r.t.t.rs.length r.t.rc, .slice r.t.wa r.t.t.ws.length r.t.wc, .bool r.t.t.out, .string r.t.t.nm, .string r.nm, .bool r.yes, .slice r.b.va r.b.vs.length r.b.vc, .slice r.b.pa r.b.ps.length r.b.pc, .slice r.b.qa r.b.qs.length r.b.qc, .int .i64 r.b.cs, .int .i64 r.b.nx]] w fun e w' => e = .returned (.bool (recB r)) ∧ Below w.heap.size w w' := by
 have BX0 : Hid (Bx (w.alloc (.cells #[.int .i64 r.k, .int .i64 r.t.t.id, .int .i64 r.t.t.st, .int .i64 r.t.t.snap, .int .i64 r.t.t.cs, .slice r.t.ra r.t.t.rs.length r.t.rc, .slice r.t.wa r.t.t.ws.length r.t.wc, .bool r.t.t.out, .string r.t.t.nm, .string r.nm, .bool r.yes, .slice r.b.va r.b.vs.length r.b.vc, .slice r.b.pa r.b.ps.length r.b.pc, .slice r.b.qa r.b.qs.length r.b.qc, .int .i64 r.b.cs, .int .i64 r.b.nx] 44)) w.heap.size [.int .i64 r.k, .int .i64 r.t.t.id, .int .i64 r.t.t.st, .int .i64 r.t.t.snap, .int .i64 r.t.t.cs, .slice r.t.ra r.t.t.rs.length r.t.rc, .slice r.t.wa r.t.t.ws.length r.t.wc, .bool r.t.t.out, .string r.t.t.nm, .string r.nm, .bool r.yes, .slice r.b.va r.b.vs.length r.b.vc, .slice r.b.pa r.b.ps.length r.b.pc, .slice r.b.qa r.b.qs.length r.b.qc, .int .i64 r.b.cs, .int .i64 r.b.nx]) := Bx.new w [.int .i64 r.k, .int .i64 r.t.t.id, .int .i64 r.t.t.st, .int .i64 r.t.t.snap, .int .i64 r.t.t.cs, .slice r.t.ra r.t.t.rs.length r.t.rc, .slice r.t.wa r.t.t.ws.length r.t.wc, .bool r.t.t.out, .string r.t.t.nm, .string r.nm, .bool r.yes, .slice r.b.va r.b.vs.length r.b.vc, .slice r.b.pa r.b.ps.length r.b.pc, .slice r.b.qa r.b.qs.length r.b.qc, .int .i64 r.b.cs, .int .i64 r.b.nx] 44
 have HB0 : Hid (Below w.heap.size w (w.alloc (.cells #[.int .i64 r.k, .int .i64 r.t.t.id, .int .i64 r.t.t.st, .int .i64 r.t.t.snap, .int .i64 r.t.t.cs, .slice r.t.ra r.t.t.rs.length r.t.rc, .slice r.t.wa r.t.t.ws.length r.t.wc, .bool r.t.t.out, .string r.t.t.nm, .string r.nm, .bool r.yes, .slice r.b.va r.b.vs.length r.b.vc, .slice r.b.pa r.b.ps.length r.b.pc, .slice r.b.qa r.b.qs.length r.b.qc, .int .i64 r.b.cs, .int .i64 r.b.nx] 44))) := (belowRefl w).alloc (Nat.le_refl _) _
 have CI : Hid (∀ W, Calls Tryz.prog 47 #[.int .i64 r.k, .int .i64 1, .int .i64 4] W fun e w' => e = .returned (.bool true) ∧ w' = W) := fun W => in57 r.k 1 4 true (by rw [hk]; decide) W
 have CT : Hid (∀ W, Below w.heap.size w W → Calls Tryz.prog 48 #[.agg #[.int .i64 r.t.t.id, .int .i64 r.t.t.st, .int .i64 r.t.t.snap, .int .i64 r.t.t.cs, .slice r.t.ra r.t.t.rs.length r.t.rc, .slice r.t.wa r.t.t.ws.length r.t.wc, .bool r.t.t.out, .string r.t.t.nm]] W fun e w' => e = .returned (.bool (txnB r.t.t)) ∧ Below W.heap.size W w') := fun W h => stxn r.t.t r.t.ra r.t.wa r.t.rc r.t.wc hf.t W (hp.t.below h)
 have CB : Hid (∀ W, Below w.heap.size w W → Calls Tryz.prog 52 #[.agg #[.slice r.b.va r.b.vs.length r.b.vc, .slice r.b.pa r.b.ps.length r.b.pc, .slice r.b.qa r.b.qs.length r.b.qc, .int .i64 r.b.cs, .int .i64 r.b.nx]] W fun e w' => e = .returned (.bool (noB r.b)) ∧ Below W.heap.size W w') := fun W h => snoB r.b W
 have e1 : (r.k == 1) = false := by simp [hk]
 have g1 : (r.k != 1) = true := by simp [hk]
 have e2 : (r.k == 2) = true := by simp [hk]
 have g2 : (r.k != 2) = false := by simp [hk]
 have e3 : (r.k == 3) = false := by simp [hk]
 have g3 : (r.k != 3) = true := by simp [hk]
 have e4 : (r.k == 4) = false := by simp [hk]
 have g4 : (r.k != 4) = true := by simp [hk]
 clear hp hf
 cases h0 : txnB r.t.t
 ·have HN : Hid (recB r = false) := by show _ = _; unfold recB; simp [hk, h0]
  clear hk
  generalize recB r = rb at *
  rw [h0] at CT
  clear h0
  go_enter Tryz.func16, Tryz.ntmps16
  go_wp2_with fail
  refine (CI.out _).mono ?_
  rintro e w0 ⟨rfl, rfl⟩
  go_wp2_with fail
  refine (CT.out _ HB0.out).mono ?_
  rintro e w1 ⟨rfl, hb⟩
  have BX1 : Hid (Bx w1 w.heap.size [.int .i64 r.k, .int .i64 r.t.t.id, .int .i64 r.t.t.st, .int .i64 r.t.t.snap, .int .i64 r.t.t.cs, .slice r.t.ra r.t.t.rs.length r.t.rc, .slice r.t.wa r.t.t.ws.length r.t.wc, .bool r.t.t.out, .string r.t.t.nm, .string r.nm, .bool r.yes, .slice r.b.va r.b.vs.length r.b.vc, .slice r.b.pa r.b.ps.length r.b.pc, .slice r.b.qa r.b.qs.length r.b.qc, .int .i64 r.b.cs, .int .i64 r.b.nx]) := BX0.out.below hb
  have HB1 : Hid (Below w.heap.size w w1) := HB0.out.trans (hb.mono HB0.out.size)
  clear hb BX0 HB0
  have x0 := BX1.out.c0
  have x1 := BX1.out.c1
  have x2 := BX1.out.c2
  have x3 := BX1.out.c3
  have x4 := BX1.out.c4
  have x5 := BX1.out.c5
  have x6 := BX1.out.c6
  have x7 := BX1.out.c7
  have x8 := BX1.out.c8
  have x9 := BX1.out.c9
  have x10 := BX1.out.c10
  have x11 := BX1.out.c11
  have x12 := BX1.out.c12
  have x13 := BX1.out.c13
  have x14 := BX1.out.c14
  have x15 := BX1.out.c15
  go_wp2
  go_ret
  exact ⟨ret_bool HN.out.symm, HB1.out⟩
 ·rw [h0] at CT
  by_cases h1 : r.t.t.st = 2
  rotate_left
  ·have s5 : (r.t.t.st != 2) = true := by simp [h1]
   have HN : Hid (recB r = false) := by show _ = _; unfold recB; simp [hk, h0, h1]
   clear hk
   clear h1
   generalize recB r = rb at *
   go_enter Tryz.func16, Tryz.ntmps16
   go_wp2_with fail
   refine (CI.out _).mono ?_
   rintro e w0 ⟨rfl, rfl⟩
   go_wp2_with fail
   refine (CT.out _ HB0.out).mono ?_
   rintro e w1 ⟨rfl, hb⟩
   have BX1 : Hid (Bx w1 w.heap.size [.int .i64 r.k, .int .i64 r.t.t.id, .int .i64 r.t.t.st, .int .i64 r.t.t.snap, .int .i64 r.t.t.cs, .slice r.t.ra r.t.t.rs.length r.t.rc, .slice r.t.wa r.t.t.ws.length r.t.wc, .bool r.t.t.out, .string r.t.t.nm, .string r.nm, .bool r.yes, .slice r.b.va r.b.vs.length r.b.vc, .slice r.b.pa r.b.ps.length r.b.pc, .slice r.b.qa r.b.qs.length r.b.qc, .int .i64 r.b.cs, .int .i64 r.b.nx]) := BX0.out.below hb
   have HB1 : Hid (Below w.heap.size w w1) := HB0.out.trans (hb.mono HB0.out.size)
   clear hb BX0 HB0
   have x0 := BX1.out.c0
   have x1 := BX1.out.c1
   have x2 := BX1.out.c2
   have x3 := BX1.out.c3
   have x4 := BX1.out.c4
   have x5 := BX1.out.c5
   have x6 := BX1.out.c6
   have x7 := BX1.out.c7
   have x8 := BX1.out.c8
   have x9 := BX1.out.c9
   have x10 := BX1.out.c10
   have x11 := BX1.out.c11
   have x12 := BX1.out.c12
   have x13 := BX1.out.c13
   have x14 := BX1.out.c14
   have x15 := BX1.out.c15
   go_wp2
   go_ret
   exact ⟨ret_bool HN.out.symm, HB1.out⟩
  ·have s5 : (r.t.t.st != 2) = false := by simp [h1]
   cases h2 : r.nm.toList.isEmpty
   ·have HN : Hid (recB r = false) := by show _ = _; unfold recB; simp [hk, h0, h1, h2]
    clear hk
    clear h1
    generalize recB r = rb at *
    go_enter Tryz.func16, Tryz.ntmps16
    go_wp2_with fail
    refine (CI.out _).mono ?_
    rintro e w0 ⟨rfl, rfl⟩
    go_wp2_with fail
    refine (CT.out _ HB0.out).mono ?_
    rintro e w1 ⟨rfl, hb⟩
    have BX1 : Hid (Bx w1 w.heap.size [.int .i64 r.k, .int .i64 r.t.t.id, .int .i64 r.t.t.st, .int .i64 r.t.t.snap, .int .i64 r.t.t.cs, .slice r.t.ra r.t.t.rs.length r.t.rc, .slice r.t.wa r.t.t.ws.length r.t.wc, .bool r.t.t.out, .string r.t.t.nm, .string r.nm, .bool r.yes, .slice r.b.va r.b.vs.length r.b.vc, .slice r.b.pa r.b.ps.length r.b.pc, .slice r.b.qa r.b.qs.length r.b.qc, .int .i64 r.b.cs, .int .i64 r.b.nx]) := BX0.out.below hb
    have HB1 : Hid (Below w.heap.size w w1) := HB0.out.trans (hb.mono HB0.out.size)
    clear hb BX0 HB0
    have x0 := BX1.out.c0
    have x1 := BX1.out.c1
    have x2 := BX1.out.c2
    have x3 := BX1.out.c3
    have x4 := BX1.out.c4
    have x5 := BX1.out.c5
    have x6 := BX1.out.c6
    have x7 := BX1.out.c7
    have x8 := BX1.out.c8
    have x9 := BX1.out.c9
    have x10 := BX1.out.c10
    have x11 := BX1.out.c11
    have x12 := BX1.out.c12
    have x13 := BX1.out.c13
    have x14 := BX1.out.c14
    have x15 := BX1.out.c15
    go_wp2
    go_ret
    exact ⟨ret_bool HN.out.symm, HB1.out⟩
   ·rcases Bool.eq_false_or_eq_true r.yes with h3 | h3
    ·have HN : Hid (recB r = false) := by show _ = _; unfold recB; simp [hk, h0, h1, h2, h3]
     clear hk
     have HY := hide h3
     clear h3
     clear h1
     generalize recB r = rb at *
     go_enter Tryz.func16, Tryz.ntmps16
     go_wp2_with fail
     refine (CI.out _).mono ?_
     rintro e w0 ⟨rfl, rfl⟩
     go_wp2_with fail
     refine (CT.out _ HB0.out).mono ?_
     rintro e w1 ⟨rfl, hb⟩
     have BX1 : Hid (Bx w1 w.heap.size [.int .i64 r.k, .int .i64 r.t.t.id, .int .i64 r.t.t.st, .int .i64 r.t.t.snap, .int .i64 r.t.t.cs, .slice r.t.ra r.t.t.rs.length r.t.rc, .slice r.t.wa r.t.t.ws.length r.t.wc, .bool r.t.t.out, .string r.t.t.nm, .string r.nm, .bool r.yes, .slice r.b.va r.b.vs.length r.b.vc, .slice r.b.pa r.b.ps.length r.b.pc, .slice r.b.qa r.b.qs.length r.b.qc, .int .i64 r.b.cs, .int .i64 r.b.nx]) := BX0.out.below hb
     have HB1 : Hid (Below w.heap.size w w1) := HB0.out.trans (hb.mono HB0.out.size)
     clear hb BX0 HB0
     have x0 := BX1.out.c0
     have x1 := BX1.out.c1
     have x2 := BX1.out.c2
     have x3 := BX1.out.c3
     have x4 := BX1.out.c4
     have x5 := BX1.out.c5
     have x6 := BX1.out.c6
     have x7 := BX1.out.c7
     have x8 := BX1.out.c8
     have x9 := BX1.out.c9
     have x10 := BX1.out.c10
     have x11 := BX1.out.c11
     have x12 := BX1.out.c12
     have x13 := BX1.out.c13
     have x14 := BX1.out.c14
     have x15 := BX1.out.c15
     rw [HY.out] at x10
     go_wp2
     go_ret
     exact ⟨ret_bool HN.out.symm, HB1.out⟩
    ·have HN : Hid (recB r = (noB r.b)) := by show _ = _; unfold recB; simp [hk, h0, h1, h2, h3]
     clear hk
     have HY := hide h3
     clear h3
     clear h1
     generalize recB r = rb at *
     generalize (noB r.b) = vv at *
     go_enter Tryz.func16, Tryz.ntmps16
     go_wp2_with fail
     refine (CI.out _).mono ?_
     rintro e w0 ⟨rfl, rfl⟩
     go_wp2_with fail
     refine (CT.out _ HB0.out).mono ?_
     rintro e w1 ⟨rfl, hb⟩
     have BX1 : Hid (Bx w1 w.heap.size [.int .i64 r.k, .int .i64 r.t.t.id, .int .i64 r.t.t.st, .int .i64 r.t.t.snap, .int .i64 r.t.t.cs, .slice r.t.ra r.t.t.rs.length r.t.rc, .slice r.t.wa r.t.t.ws.length r.t.wc, .bool r.t.t.out, .string r.t.t.nm, .string r.nm, .bool r.yes, .slice r.b.va r.b.vs.length r.b.vc, .slice r.b.pa r.b.ps.length r.b.pc, .slice r.b.qa r.b.qs.length r.b.qc, .int .i64 r.b.cs, .int .i64 r.b.nx]) := BX0.out.below hb
     have HB1 : Hid (Below w.heap.size w w1) := HB0.out.trans (hb.mono HB0.out.size)
     clear hb BX0 HB0
     have x0 := BX1.out.c0
     have x1 := BX1.out.c1
     have x2 := BX1.out.c2
     have x3 := BX1.out.c3
     have x4 := BX1.out.c4
     have x5 := BX1.out.c5
     have x6 := BX1.out.c6
     have x7 := BX1.out.c7
     have x8 := BX1.out.c8
     have x9 := BX1.out.c9
     have x10 := BX1.out.c10
     have x11 := BX1.out.c11
     have x12 := BX1.out.c12
     have x13 := BX1.out.c13
     have x14 := BX1.out.c14
     have x15 := BX1.out.c15
     rw [HY.out] at x10
     go_wp2_with fail
     refine (CB.out _ HB1.out).mono ?_
     rintro e w3 ⟨rfl, hb⟩
     have HB2 : Hid (Below w.heap.size w w3) := HB1.out.trans (hb.mono HB1.out.size)
     clear hb
     go_wp2
     go_ret
     exact ⟨ret_bool HN.out.symm, HB2.out⟩

set_option maxRecDepth 100000 in
set_option maxHeartbeats 2000000 in
theorem srec3 (r : Rc) (hk : r.k = 3) (hf : RcFit r) (w : World) (_ : RcRows w r) :
  Calls Tryz.prog 16 #[.agg #[.int .i64 r.k, .int .i64 r.t.t.id, .int .i64 r.t.t.st, .int .i64 r.t.t.snap, .int .i64 r.t.t.cs, .slice r.t.ra r.t.t.rs.length r.t.rc, .slice r.t.wa r.t.t.ws.length r.t.wc, .bool r.t.t.out, .string r.t.t.nm, .string r.nm, .bool r.yes, .slice r.b.va r.b.vs.length r.b.vc, .slice r.b.pa r.b.ps.length r.b.pc, .slice r.b.qa r.b.qs.length r.b.qc, .int .i64 r.b.cs, .int .i64 r.b.nx]] w fun e w' => e = .returned (.bool (recB r)) ∧ Below w.heap.size w w' := by
 have BX0 : Hid (Bx (w.alloc (.cells #[.int .i64 r.k, .int .i64 r.t.t.id, .int .i64 r.t.t.st, .int .i64 r.t.t.snap, .int .i64 r.t.t.cs, .slice r.t.ra r.t.t.rs.length r.t.rc, .slice r.t.wa r.t.t.ws.length r.t.wc, .bool r.t.t.out, .string r.t.t.nm, .string r.nm, .bool r.yes, .slice r.b.va r.b.vs.length r.b.vc, .slice r.b.pa r.b.ps.length r.b.pc, .slice r.b.qa r.b.qs.length r.b.qc, .int .i64 r.b.cs, .int .i64 r.b.nx] 44)) w.heap.size [.int .i64 r.k, .int .i64 r.t.t.id, .int .i64 r.t.t.st, .int .i64 r.t.t.snap, .int .i64 r.t.t.cs, .slice r.t.ra r.t.t.rs.length r.t.rc, .slice r.t.wa r.t.t.ws.length r.t.wc, .bool r.t.t.out, .string r.t.t.nm, .string r.nm, .bool r.yes, .slice r.b.va r.b.vs.length r.b.vc, .slice r.b.pa r.b.ps.length r.b.pc, .slice r.b.qa r.b.qs.length r.b.qc, .int .i64 r.b.cs, .int .i64 r.b.nx]) := Bx.new w [.int .i64 r.k, .int .i64 r.t.t.id, .int .i64 r.t.t.st, .int .i64 r.t.t.snap, .int .i64 r.t.t.cs, .slice r.t.ra r.t.t.rs.length r.t.rc, .slice r.t.wa r.t.t.ws.length r.t.wc, .bool r.t.t.out, .string r.t.t.nm, .string r.nm, .bool r.yes, .slice r.b.va r.b.vs.length r.b.vc, .slice r.b.pa r.b.ps.length r.b.pc, .slice r.b.qa r.b.qs.length r.b.qc, .int .i64 r.b.cs, .int .i64 r.b.nx] 44
 have HB0 : Hid (Below w.heap.size w (w.alloc (.cells #[.int .i64 r.k, .int .i64 r.t.t.id, .int .i64 r.t.t.st, .int .i64 r.t.t.snap, .int .i64 r.t.t.cs, .slice r.t.ra r.t.t.rs.length r.t.rc, .slice r.t.wa r.t.t.ws.length r.t.wc, .bool r.t.t.out, .string r.t.t.nm, .string r.nm, .bool r.yes, .slice r.b.va r.b.vs.length r.b.vc, .slice r.b.pa r.b.ps.length r.b.pc, .slice r.b.qa r.b.qs.length r.b.qc, .int .i64 r.b.cs, .int .i64 r.b.nx] 44))) := (belowRefl w).alloc (Nat.le_refl _) _
 have CI : Hid (∀ W, Calls Tryz.prog 47 #[.int .i64 r.k, .int .i64 1, .int .i64 4] W fun e w' => e = .returned (.bool true) ∧ w' = W) := fun W => in57 r.k 1 4 true (by rw [hk]; decide) W
 have CT : Hid (∀ W, Below w.heap.size w W → Calls Tryz.prog 49 #[.agg #[.int .i64 r.t.t.id, .int .i64 r.t.t.st, .int .i64 r.t.t.snap, .int .i64 r.t.t.cs, .slice r.t.ra r.t.t.rs.length r.t.rc, .slice r.t.wa r.t.t.ws.length r.t.wc, .bool r.t.t.out, .string r.t.t.nm]] W fun e w' => e = .returned (.bool (noT r.t.t)) ∧ Below W.heap.size W w') := fun W h => snoT r.t.t r.t.ra r.t.wa r.t.rc r.t.wc W
 have CK : Hid (∀ W, Calls Tryz.prog 50 #[.string r.nm] W fun e w' => e = .returned (.bool (keyB r.nm)) ∧ w' = W) := fun W => skey r.nm hf.nm W
 have CB : Hid (∀ W, Below w.heap.size w W → Calls Tryz.prog 52 #[.agg #[.slice r.b.va r.b.vs.length r.b.vc, .slice r.b.pa r.b.ps.length r.b.pc, .slice r.b.qa r.b.qs.length r.b.qc, .int .i64 r.b.cs, .int .i64 r.b.nx]] W fun e w' => e = .returned (.bool (noB r.b)) ∧ Below W.heap.size W w') := fun W h => snoB r.b W
 have e1 : (r.k == 1) = false := by simp [hk]
 have g1 : (r.k != 1) = true := by simp [hk]
 have e2 : (r.k == 2) = false := by simp [hk]
 have g2 : (r.k != 2) = true := by simp [hk]
 have e3 : (r.k == 3) = true := by simp [hk]
 have g3 : (r.k != 3) = false := by simp [hk]
 have e4 : (r.k == 4) = false := by simp [hk]
 have g4 : (r.k != 4) = true := by simp [hk]
 clear hf
 cases h0 : noT r.t.t
 ·have HN : Hid (recB r = false) := by show _ = _; unfold recB; simp [hk, h0]
  clear hk
  generalize recB r = rb at *
  rw [h0] at CT
  clear h0
  go_enter Tryz.func16, Tryz.ntmps16
  go_wp2_with fail
  refine (CI.out _).mono ?_
  rintro e w0 ⟨rfl, rfl⟩
  go_wp2_with fail
  refine (CT.out _ HB0.out).mono ?_
  rintro e w1 ⟨rfl, hb⟩
  have BX1 : Hid (Bx w1 w.heap.size [.int .i64 r.k, .int .i64 r.t.t.id, .int .i64 r.t.t.st, .int .i64 r.t.t.snap, .int .i64 r.t.t.cs, .slice r.t.ra r.t.t.rs.length r.t.rc, .slice r.t.wa r.t.t.ws.length r.t.wc, .bool r.t.t.out, .string r.t.t.nm, .string r.nm, .bool r.yes, .slice r.b.va r.b.vs.length r.b.vc, .slice r.b.pa r.b.ps.length r.b.pc, .slice r.b.qa r.b.qs.length r.b.qc, .int .i64 r.b.cs, .int .i64 r.b.nx]) := BX0.out.below hb
  have HB1 : Hid (Below w.heap.size w w1) := HB0.out.trans (hb.mono HB0.out.size)
  clear hb BX0 HB0
  have x0 := BX1.out.c0
  have x1 := BX1.out.c1
  have x2 := BX1.out.c2
  have x3 := BX1.out.c3
  have x4 := BX1.out.c4
  have x5 := BX1.out.c5
  have x6 := BX1.out.c6
  have x7 := BX1.out.c7
  have x8 := BX1.out.c8
  have x9 := BX1.out.c9
  have x10 := BX1.out.c10
  have x11 := BX1.out.c11
  have x12 := BX1.out.c12
  have x13 := BX1.out.c13
  have x14 := BX1.out.c14
  have x15 := BX1.out.c15
  go_wp2
  go_ret
  exact ⟨ret_bool HN.out.symm, HB1.out⟩
 ·rw [h0] at CT
  cases h1 : keyB r.nm
  ·have HN : Hid (recB r = false) := by show _ = _; unfold recB; simp [hk, h0, h1]
   clear hk
   generalize recB r = rb at *
   rw [h1] at CK
   clear h1
   go_enter Tryz.func16, Tryz.ntmps16
   go_wp2_with fail
   refine (CI.out _).mono ?_
   rintro e w0 ⟨rfl, rfl⟩
   go_wp2_with fail
   refine (CT.out _ HB0.out).mono ?_
   rintro e w1 ⟨rfl, hb⟩
   have BX1 : Hid (Bx w1 w.heap.size [.int .i64 r.k, .int .i64 r.t.t.id, .int .i64 r.t.t.st, .int .i64 r.t.t.snap, .int .i64 r.t.t.cs, .slice r.t.ra r.t.t.rs.length r.t.rc, .slice r.t.wa r.t.t.ws.length r.t.wc, .bool r.t.t.out, .string r.t.t.nm, .string r.nm, .bool r.yes, .slice r.b.va r.b.vs.length r.b.vc, .slice r.b.pa r.b.ps.length r.b.pc, .slice r.b.qa r.b.qs.length r.b.qc, .int .i64 r.b.cs, .int .i64 r.b.nx]) := BX0.out.below hb
   have HB1 : Hid (Below w.heap.size w w1) := HB0.out.trans (hb.mono HB0.out.size)
   clear hb BX0 HB0
   have x0 := BX1.out.c0
   have x1 := BX1.out.c1
   have x2 := BX1.out.c2
   have x3 := BX1.out.c3
   have x4 := BX1.out.c4
   have x5 := BX1.out.c5
   have x6 := BX1.out.c6
   have x7 := BX1.out.c7
   have x8 := BX1.out.c8
   have x9 := BX1.out.c9
   have x10 := BX1.out.c10
   have x11 := BX1.out.c11
   have x12 := BX1.out.c12
   have x13 := BX1.out.c13
   have x14 := BX1.out.c14
   have x15 := BX1.out.c15
   go_wp2_with fail
   refine (CK.out _).mono ?_
   rintro e w2 ⟨rfl, rfl⟩
   go_wp2
   go_ret
   exact ⟨ret_bool HN.out.symm, HB1.out⟩
  ·rw [h1] at CK
   have HN : Hid (recB r = (noB r.b)) := by show _ = _; unfold recB; simp [hk, h0, h1]
   clear hk
   generalize recB r = rb at *
   generalize (noB r.b) = vv at *
   go_enter Tryz.func16, Tryz.ntmps16
   go_wp2_with fail
   refine (CI.out _).mono ?_
   rintro e w0 ⟨rfl, rfl⟩
   go_wp2_with fail
   refine (CT.out _ HB0.out).mono ?_
   rintro e w1 ⟨rfl, hb⟩
   have BX1 : Hid (Bx w1 w.heap.size [.int .i64 r.k, .int .i64 r.t.t.id, .int .i64 r.t.t.st, .int .i64 r.t.t.snap, .int .i64 r.t.t.cs, .slice r.t.ra r.t.t.rs.length r.t.rc, .slice r.t.wa r.t.t.ws.length r.t.wc, .bool r.t.t.out, .string r.t.t.nm, .string r.nm, .bool r.yes, .slice r.b.va r.b.vs.length r.b.vc, .slice r.b.pa r.b.ps.length r.b.pc, .slice r.b.qa r.b.qs.length r.b.qc, .int .i64 r.b.cs, .int .i64 r.b.nx]) := BX0.out.below hb
   have HB1 : Hid (Below w.heap.size w w1) := HB0.out.trans (hb.mono HB0.out.size)
   clear hb BX0 HB0
   have x0 := BX1.out.c0
   have x1 := BX1.out.c1
   have x2 := BX1.out.c2
   have x3 := BX1.out.c3
   have x4 := BX1.out.c4
   have x5 := BX1.out.c5
   have x6 := BX1.out.c6
   have x7 := BX1.out.c7
   have x8 := BX1.out.c8
   have x9 := BX1.out.c9
   have x10 := BX1.out.c10
   have x11 := BX1.out.c11
   have x12 := BX1.out.c12
   have x13 := BX1.out.c13
   have x14 := BX1.out.c14
   have x15 := BX1.out.c15
   go_wp2_with fail
   refine (CK.out _).mono ?_
   rintro e w2 ⟨rfl, rfl⟩
   go_wp2_with fail
   refine (CB.out _ HB1.out).mono ?_
   rintro e w3 ⟨rfl, hb⟩
   have HB2 : Hid (Below w.heap.size w w3) := HB1.out.trans (hb.mono HB1.out.size)
   clear hb
   go_wp2
   go_ret
   exact ⟨ret_bool HN.out.symm, HB2.out⟩

set_option maxRecDepth 100000 in
set_option maxHeartbeats 2000000 in
theorem srec4 (r : Rc) (hk : r.k = 4) (hf : RcFit r) (w : World) (hp : RcRows w r) :
  Calls Tryz.prog 16 #[.agg #[.int .i64 r.k, .int .i64 r.t.t.id, .int .i64 r.t.t.st, .int .i64 r.t.t.snap, .int .i64 r.t.t.cs, .slice r.t.ra r.t.t.rs.length r.t.rc, .slice r.t.wa r.t.t.ws.length r.t.wc, .bool r.t.t.out, .string r.t.t.nm, .string r.nm, .bool r.yes, .slice r.b.va r.b.vs.length r.b.vc, .slice r.b.pa r.b.ps.length r.b.pc, .slice r.b.qa r.b.qs.length r.b.qc, .int .i64 r.b.cs, .int .i64 r.b.nx]] w fun e w' => e = .returned (.bool (recB r)) ∧ Below w.heap.size w w' := by
 have BX0 : Hid (Bx (w.alloc (.cells #[.int .i64 r.k, .int .i64 r.t.t.id, .int .i64 r.t.t.st, .int .i64 r.t.t.snap, .int .i64 r.t.t.cs, .slice r.t.ra r.t.t.rs.length r.t.rc, .slice r.t.wa r.t.t.ws.length r.t.wc, .bool r.t.t.out, .string r.t.t.nm, .string r.nm, .bool r.yes, .slice r.b.va r.b.vs.length r.b.vc, .slice r.b.pa r.b.ps.length r.b.pc, .slice r.b.qa r.b.qs.length r.b.qc, .int .i64 r.b.cs, .int .i64 r.b.nx] 44)) w.heap.size [.int .i64 r.k, .int .i64 r.t.t.id, .int .i64 r.t.t.st, .int .i64 r.t.t.snap, .int .i64 r.t.t.cs, .slice r.t.ra r.t.t.rs.length r.t.rc, .slice r.t.wa r.t.t.ws.length r.t.wc, .bool r.t.t.out, .string r.t.t.nm, .string r.nm, .bool r.yes, .slice r.b.va r.b.vs.length r.b.vc, .slice r.b.pa r.b.ps.length r.b.pc, .slice r.b.qa r.b.qs.length r.b.qc, .int .i64 r.b.cs, .int .i64 r.b.nx]) := Bx.new w [.int .i64 r.k, .int .i64 r.t.t.id, .int .i64 r.t.t.st, .int .i64 r.t.t.snap, .int .i64 r.t.t.cs, .slice r.t.ra r.t.t.rs.length r.t.rc, .slice r.t.wa r.t.t.ws.length r.t.wc, .bool r.t.t.out, .string r.t.t.nm, .string r.nm, .bool r.yes, .slice r.b.va r.b.vs.length r.b.vc, .slice r.b.pa r.b.ps.length r.b.pc, .slice r.b.qa r.b.qs.length r.b.qc, .int .i64 r.b.cs, .int .i64 r.b.nx] 44
 have HB0 : Hid (Below w.heap.size w (w.alloc (.cells #[.int .i64 r.k, .int .i64 r.t.t.id, .int .i64 r.t.t.st, .int .i64 r.t.t.snap, .int .i64 r.t.t.cs, .slice r.t.ra r.t.t.rs.length r.t.rc, .slice r.t.wa r.t.t.ws.length r.t.wc, .bool r.t.t.out, .string r.t.t.nm, .string r.nm, .bool r.yes, .slice r.b.va r.b.vs.length r.b.vc, .slice r.b.pa r.b.ps.length r.b.pc, .slice r.b.qa r.b.qs.length r.b.qc, .int .i64 r.b.cs, .int .i64 r.b.nx] 44))) := (belowRefl w).alloc (Nat.le_refl _) _
 have CI : Hid (∀ W, Calls Tryz.prog 47 #[.int .i64 r.k, .int .i64 1, .int .i64 4] W fun e w' => e = .returned (.bool true) ∧ w' = W) := fun W => in57 r.k 1 4 true (by rw [hk]; decide) W
 have CT : Hid (∀ W, Below w.heap.size w W → Calls Tryz.prog 49 #[.agg #[.int .i64 r.t.t.id, .int .i64 r.t.t.st, .int .i64 r.t.t.snap, .int .i64 r.t.t.cs, .slice r.t.ra r.t.t.rs.length r.t.rc, .slice r.t.wa r.t.t.ws.length r.t.wc, .bool r.t.t.out, .string r.t.t.nm]] W fun e w' => e = .returned (.bool (noT r.t.t)) ∧ Below W.heap.size W w') := fun W h => snoT r.t.t r.t.ra r.t.wa r.t.rc r.t.wc W
 have CB : Hid (∀ W, Below w.heap.size w W → Calls Tryz.prog 51 #[.agg #[.slice r.b.va r.b.vs.length r.b.vc, .slice r.b.pa r.b.ps.length r.b.pc, .slice r.b.qa r.b.qs.length r.b.qc, .int .i64 r.b.cs, .int .i64 r.b.nx]] W fun e w' => e = .returned (.bool (sbB r.b)) ∧ Below W.heap.size W w') := fun W h => sbase5 r.b hf.b W (hp.b.below h)
 have e1 : (r.k == 1) = false := by simp [hk]
 have g1 : (r.k != 1) = true := by simp [hk]
 have e2 : (r.k == 2) = false := by simp [hk]
 have g2 : (r.k != 2) = true := by simp [hk]
 have e3 : (r.k == 3) = false := by simp [hk]
 have g3 : (r.k != 3) = true := by simp [hk]
 have e4 : (r.k == 4) = true := by simp [hk]
 have g4 : (r.k != 4) = false := by simp [hk]
 clear hp hf
 cases h0 : noT r.t.t
 ·have HN : Hid (recB r = false) := by show _ = _; unfold recB; simp [hk, h0]
  clear hk
  generalize recB r = rb at *
  rw [h0] at CT
  clear h0
  go_enter Tryz.func16, Tryz.ntmps16
  go_wp2_with fail
  refine (CI.out _).mono ?_
  rintro e w0 ⟨rfl, rfl⟩
  go_wp2_with fail
  refine (CT.out _ HB0.out).mono ?_
  rintro e w1 ⟨rfl, hb⟩
  have BX1 : Hid (Bx w1 w.heap.size [.int .i64 r.k, .int .i64 r.t.t.id, .int .i64 r.t.t.st, .int .i64 r.t.t.snap, .int .i64 r.t.t.cs, .slice r.t.ra r.t.t.rs.length r.t.rc, .slice r.t.wa r.t.t.ws.length r.t.wc, .bool r.t.t.out, .string r.t.t.nm, .string r.nm, .bool r.yes, .slice r.b.va r.b.vs.length r.b.vc, .slice r.b.pa r.b.ps.length r.b.pc, .slice r.b.qa r.b.qs.length r.b.qc, .int .i64 r.b.cs, .int .i64 r.b.nx]) := BX0.out.below hb
  have HB1 : Hid (Below w.heap.size w w1) := HB0.out.trans (hb.mono HB0.out.size)
  clear hb BX0 HB0
  have x0 := BX1.out.c0
  have x1 := BX1.out.c1
  have x2 := BX1.out.c2
  have x3 := BX1.out.c3
  have x4 := BX1.out.c4
  have x5 := BX1.out.c5
  have x6 := BX1.out.c6
  have x7 := BX1.out.c7
  have x8 := BX1.out.c8
  have x9 := BX1.out.c9
  have x10 := BX1.out.c10
  have x11 := BX1.out.c11
  have x12 := BX1.out.c12
  have x13 := BX1.out.c13
  have x14 := BX1.out.c14
  have x15 := BX1.out.c15
  go_wp2
  go_ret
  exact ⟨ret_bool HN.out.symm, HB1.out⟩
 ·rw [h0] at CT
  cases h1 : r.nm.toList.isEmpty
  ·have HN : Hid (recB r = false) := by show _ = _; unfold recB; simp [hk, h0, h1]
   clear hk
   generalize recB r = rb at *
   go_enter Tryz.func16, Tryz.ntmps16
   go_wp2_with fail
   refine (CI.out _).mono ?_
   rintro e w0 ⟨rfl, rfl⟩
   go_wp2_with fail
   refine (CT.out _ HB0.out).mono ?_
   rintro e w1 ⟨rfl, hb⟩
   have BX1 : Hid (Bx w1 w.heap.size [.int .i64 r.k, .int .i64 r.t.t.id, .int .i64 r.t.t.st, .int .i64 r.t.t.snap, .int .i64 r.t.t.cs, .slice r.t.ra r.t.t.rs.length r.t.rc, .slice r.t.wa r.t.t.ws.length r.t.wc, .bool r.t.t.out, .string r.t.t.nm, .string r.nm, .bool r.yes, .slice r.b.va r.b.vs.length r.b.vc, .slice r.b.pa r.b.ps.length r.b.pc, .slice r.b.qa r.b.qs.length r.b.qc, .int .i64 r.b.cs, .int .i64 r.b.nx]) := BX0.out.below hb
   have HB1 : Hid (Below w.heap.size w w1) := HB0.out.trans (hb.mono HB0.out.size)
   clear hb BX0 HB0
   have x0 := BX1.out.c0
   have x1 := BX1.out.c1
   have x2 := BX1.out.c2
   have x3 := BX1.out.c3
   have x4 := BX1.out.c4
   have x5 := BX1.out.c5
   have x6 := BX1.out.c6
   have x7 := BX1.out.c7
   have x8 := BX1.out.c8
   have x9 := BX1.out.c9
   have x10 := BX1.out.c10
   have x11 := BX1.out.c11
   have x12 := BX1.out.c12
   have x13 := BX1.out.c13
   have x14 := BX1.out.c14
   have x15 := BX1.out.c15
   go_wp2
   go_ret
   exact ⟨ret_bool HN.out.symm, HB1.out⟩
  ·rcases Bool.eq_false_or_eq_true r.yes with h2 | h2
   ·have HN : Hid (recB r = false) := by show _ = _; unfold recB; simp [hk, h0, h1, h2]
    clear hk
    have HY := hide h2
    clear h2
    generalize recB r = rb at *
    go_enter Tryz.func16, Tryz.ntmps16
    go_wp2_with fail
    refine (CI.out _).mono ?_
    rintro e w0 ⟨rfl, rfl⟩
    go_wp2_with fail
    refine (CT.out _ HB0.out).mono ?_
    rintro e w1 ⟨rfl, hb⟩
    have BX1 : Hid (Bx w1 w.heap.size [.int .i64 r.k, .int .i64 r.t.t.id, .int .i64 r.t.t.st, .int .i64 r.t.t.snap, .int .i64 r.t.t.cs, .slice r.t.ra r.t.t.rs.length r.t.rc, .slice r.t.wa r.t.t.ws.length r.t.wc, .bool r.t.t.out, .string r.t.t.nm, .string r.nm, .bool r.yes, .slice r.b.va r.b.vs.length r.b.vc, .slice r.b.pa r.b.ps.length r.b.pc, .slice r.b.qa r.b.qs.length r.b.qc, .int .i64 r.b.cs, .int .i64 r.b.nx]) := BX0.out.below hb
    have HB1 : Hid (Below w.heap.size w w1) := HB0.out.trans (hb.mono HB0.out.size)
    clear hb BX0 HB0
    have x0 := BX1.out.c0
    have x1 := BX1.out.c1
    have x2 := BX1.out.c2
    have x3 := BX1.out.c3
    have x4 := BX1.out.c4
    have x5 := BX1.out.c5
    have x6 := BX1.out.c6
    have x7 := BX1.out.c7
    have x8 := BX1.out.c8
    have x9 := BX1.out.c9
    have x10 := BX1.out.c10
    have x11 := BX1.out.c11
    have x12 := BX1.out.c12
    have x13 := BX1.out.c13
    have x14 := BX1.out.c14
    have x15 := BX1.out.c15
    rw [HY.out] at x10
    go_wp2
    go_ret
    exact ⟨ret_bool HN.out.symm, HB1.out⟩
   ·have HN : Hid (recB r = (sbB r.b)) := by show _ = _; unfold recB; simp [hk, h0, h1, h2]
    clear hk
    have HY := hide h2
    clear h2
    generalize recB r = rb at *
    generalize (sbB r.b) = vv at *
    go_enter Tryz.func16, Tryz.ntmps16
    go_wp2_with fail
    refine (CI.out _).mono ?_
    rintro e w0 ⟨rfl, rfl⟩
    go_wp2_with fail
    refine (CT.out _ HB0.out).mono ?_
    rintro e w1 ⟨rfl, hb⟩
    have BX1 : Hid (Bx w1 w.heap.size [.int .i64 r.k, .int .i64 r.t.t.id, .int .i64 r.t.t.st, .int .i64 r.t.t.snap, .int .i64 r.t.t.cs, .slice r.t.ra r.t.t.rs.length r.t.rc, .slice r.t.wa r.t.t.ws.length r.t.wc, .bool r.t.t.out, .string r.t.t.nm, .string r.nm, .bool r.yes, .slice r.b.va r.b.vs.length r.b.vc, .slice r.b.pa r.b.ps.length r.b.pc, .slice r.b.qa r.b.qs.length r.b.qc, .int .i64 r.b.cs, .int .i64 r.b.nx]) := BX0.out.below hb
    have HB1 : Hid (Below w.heap.size w w1) := HB0.out.trans (hb.mono HB0.out.size)
    clear hb BX0 HB0
    have x0 := BX1.out.c0
    have x1 := BX1.out.c1
    have x2 := BX1.out.c2
    have x3 := BX1.out.c3
    have x4 := BX1.out.c4
    have x5 := BX1.out.c5
    have x6 := BX1.out.c6
    have x7 := BX1.out.c7
    have x8 := BX1.out.c8
    have x9 := BX1.out.c9
    have x10 := BX1.out.c10
    have x11 := BX1.out.c11
    have x12 := BX1.out.c12
    have x13 := BX1.out.c13
    have x14 := BX1.out.c14
    have x15 := BX1.out.c15
    rw [HY.out] at x10
    go_wp2_with fail
    refine (CB.out _ HB1.out).mono ?_
    rintro e w3 ⟨rfl, hb⟩
    have HB2 : Hid (Below w.heap.size w w3) := HB1.out.trans (hb.mono HB1.out.size)
    clear hb
    go_wp2
    go_ret
    exact ⟨ret_bool HN.out.symm, HB2.out⟩

set_option maxRecDepth 100000 in
set_option maxHeartbeats 2000000 in
theorem srec0 (r : Rc) (h1 : ¬ (1 ≤ r.k ∧ r.k ≤ 4)) (w : World) :
  Calls Tryz.prog 16 #[.agg #[.int .i64 r.k, .int .i64 r.t.t.id, .int .i64 r.t.t.st, .int .i64 r.t.t.snap, .int .i64 r.t.t.cs, .slice r.t.ra r.t.t.rs.length r.t.rc, .slice r.t.wa r.t.t.ws.length r.t.wc, .bool r.t.t.out, .string r.t.t.nm, .string r.nm, .bool r.yes, .slice r.b.va r.b.vs.length r.b.vc, .slice r.b.pa r.b.ps.length r.b.pc, .slice r.b.qa r.b.qs.length r.b.qc, .int .i64 r.b.cs, .int .i64 r.b.nx]] w fun e w' => e = .returned (.bool (recB r)) ∧ Below w.heap.size w w' := by
 have HN : Hid (recB r = false) := by
  have k1 : r.k ≠ 1 := by omega
  have k2 : r.k ≠ 2 := by omega
  have k3 : r.k ≠ 3 := by omega
  have k4 : r.k ≠ 4 := by omega
  show _ = _; unfold recB; simp [k1, k2, k3, k4]
 have CI : Hid (∀ W, Calls Tryz.prog 47 #[.int .i64 r.k, .int .i64 1, .int .i64 4] W fun e w' => e = .returned (.bool false) ∧ w' = W) := fun W => in57 r.k 1 4 false (by simpa using h1) W
 clear h1
 generalize recB r = rb at *
 go_enter Tryz.func16, Tryz.ntmps16
 go_wp2_with fail
 refine (CI.out _).mono ?_
 rintro e w0 ⟨rfl, rfl⟩
 go_wp2
 go_ret
 exact ⟨ret_bool HN.out.symm, (belowRefl w).alloc (Nat.le_refl _) _⟩

theorem srec (r : Rc) (hf : RcFit r) (w : World) (hp : RcRows w r) :
  Calls Tryz.prog 16 #[.agg #[.int .i64 r.k, .int .i64 r.t.t.id, .int .i64 r.t.t.st, .int .i64 r.t.t.snap, .int .i64 r.t.t.cs, .slice r.t.ra r.t.t.rs.length r.t.rc, .slice r.t.wa r.t.t.ws.length r.t.wc, .bool r.t.t.out, .string r.t.t.nm, .string r.nm, .bool r.yes, .slice r.b.va r.b.vs.length r.b.vc, .slice r.b.pa r.b.ps.length r.b.pc, .slice r.b.qa r.b.qs.length r.b.qc, .int .i64 r.b.cs, .int .i64 r.b.nx]] w fun e w' => e = .returned (.bool (recB r)) ∧ Below w.heap.size w w' := by
 by_cases h1 : r.k = 1
 ·exact srec1 r h1 hf w hp
 by_cases h2 : r.k = 2
 ·exact srec2 r h2 hf w hp
 by_cases h3 : r.k = 3
 ·exact srec3 r h3 hf w hp
 by_cases h4 : r.k = 4
 ·exact srec4 r h4 hf w hp
 exact srec0 r (by omega) w

theorem rec_same {r c : Rc} (h : RcSame r c) : recB c = recB r := by
 have hb : noB c.b = noB r.b := by unfold noB; rw [h.b.cs, h.b.nx, h.b.vl, h.b.pl, h.b.ql]
 unfold recB
 rw [h.k, h.t, h.nm, h.yes, hb, sb_same h.b]

end Go.Proofs.YtpnnncfbodfnhaaGreatDoor
