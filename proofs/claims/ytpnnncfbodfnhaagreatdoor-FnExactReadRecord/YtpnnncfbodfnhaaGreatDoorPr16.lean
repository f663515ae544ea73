/- What RecordOk answers: the program's, and the document's. -/
import Derived.Test.YtpnnncfbodfnhaaGreatDoorPr15
import Derived.Test.YtpnnncfbodfnhaaGreatDoorPr14
import Derived.Lib.ItoaNum
import Derived.Test.YtpnnncfbodfnhaaGreatDoorPr08
import Derived.Test.YtpnnncfbodfnhaaGreatDoorProg
import Derived.WalkKit
import Derived.Test.YtpnnncfbodfnhaaGreatDoorPr01
import Derived.WalkSpells
import Derived.WalkLawsBesides
import Derived.Deep.QuietTactic
import Derived.BigQuiet
import Derived.Deep.RegionHeld3
import Derived.Deep.DrawnRows
import Derived.Deep.AppendLies
import Derived.Test.YtpnnncfbodfnhaaGreatDoorPr02
import Derived.Test.YtpnnncfbodfnhaaGreatDoorPr04
import Derived.Sort.OwnSorted
import Derived.Lib.RowBridge
import Derived.Test.YtpnnncfbodfnhaaGreatDoorPr05
namespace Go.Proofs.YtpnnncfbodfnhaaGreatDoor
open Go.RowKit
open KM
attribute [local go_sem ↓] Go.wp_at_zero Go.wp_at_succ

set_option maxRecDepth 100000 in
set_option maxHeartbeats 2000000 in
theorem irec (r : Rc) (hf : RcFit r) (hpa : r.b.pa = none → r.b.ps.length = 0 ∧ r.b.pc = 0) (hqa : r.b.qa = none → r.b.qs.length = 0 ∧ r.b.qc = 0) (w : World) (hp : RcRows w r) :
  Calls Tryz.prog 81 #[.agg #[.int .i64 r.k, .int .i64 r.t.t.id, .int .i64 r.t.t.st, .int .i64 r.t.t.snap, .int .i64 r.t.t.cs, .slice r.t.ra r.t.t.rs.length r.t.rc, .slice r.t.wa r.t.t.ws.length r.t.wc, .bool r.t.t.out, .string r.t.t.nm, .string r.nm, .bool r.yes, .slice r.b.va r.b.vs.length r.b.vc, .slice r.b.pa r.b.ps.length r.b.pc, .slice r.b.qa r.b.qs.length r.b.qc, .int .i64 r.b.cs, .int .i64 r.b.nx]] w fun e w' => e = .returned (.bool (recB r)) ∧ Below w.heap.size w w' := by
 have HB0 : Hid (Below w.heap.size w (w.alloc (.cells #[.int .i64 r.k, .int .i64 r.t.t.id, .int .i64 r.t.t.st, .int .i64 r.t.t.snap, .int .i64 r.t.t.cs, .slice r.t.ra r.t.t.rs.length r.t.rc, .slice r.t.wa r.t.t.ws.length r.t.wc, .bool r.t.t.out, .string r.t.t.nm, .string r.nm, .bool r.yes, .slice r.b.va r.b.vs.length r.b.vc, .slice r.b.pa r.b.ps.length r.b.pc, .slice r.b.qa r.b.qs.length r.b.qc, .int .i64 r.b.cs, .int .i64 r.b.nx] 44))) := (belowRefl w).alloc (Nat.le_refl _) _
 have C1 : Hid (∀ W, Below w.heap.size w W → Calls Tryz.prog 24 #[.agg #[.int .i64 r.k, .int .i64 r.t.t.id, .int .i64 r.t.t.st, .int .i64 r.t.t.snap, .int .i64 r.t.t.cs, .slice r.t.ra r.t.t.rs.length r.t.rc, .slice r.t.wa r.t.t.ws.length r.t.wc, .bool r.t.t.out, .string r.t.t.nm, .string r.nm, .bool r.yes, .slice r.b.va r.b.vs.length r.b.vc, .slice r.b.pa r.b.ps.length r.b.pc, .slice r.b.qa r.b.qs.length r.b.qc, .int .i64 r.b.cs, .int .i64 r.b.nx]] W fun e w' => e = .returned (.tuple #[noteV r, .bool (recB r)]) ∧ Below W.heap.size W w') := fun W h => note r hf hpa hqa W (hp.below h)
 clear hf hpa hqa hp
 generalize recB r = v at *
 generalize noteV r = nv at *
 go_enter Tryz.func81, Tryz.ntmps81
 go_wp2_with fail
 refine (C1.out _ HB0.out).mono ?_
 rintro e w1 ⟨rfl, hb1⟩
 have HB1 := hide (HB0.out.trans (hb1.mono HB0.out.size))
 clear hb1
 go_wp2
 go_ret
 exact ⟨rfl, HB1.out⟩

set_option maxRecDepth 100000 in
set_option maxHeartbeats 2000000 in
theorem srec1 (r : Rc) (hk : r.k = 1) (hf : RcFit r) (w : World) (hp : RcRows w r) :
  Calls Tryz.prog 16 #[.agg #[.int .i64 r.k, .int .i64 r.t.t.id, .int .i64 r.t.t.st, .int .i64 r.t.t.snap, .int .i64 r.t.t.cs, .slice r.t.ra r.t.t.rs.length r.t.rc, .slice r.t.wa r.t.t.ws.length r.t.wc, .bool r.t.t.out, .string r.t.t.nm, .string r.nm, .bool r.yes, .slice r.b.va r.b.vs.length r.b.vc, .slice r.b.pa r.b.ps.length r.b.pc, .slice r.b.qa r.b.qs.length r.b.qc, .int .i64 r.b.cs, .int .i64 r.b.nx]] w fun e w' => e = .returned (.bool (recB r)) ∧ Below w.heap.size w w' := by
 have BX0 := hide (Bx.new w [.int .i64 r.k, .int .i64 r.t.t.id, .int .i64 r.t.t.st, .int .i64 r.t.t.snap, .int .i64 r.t.t.cs, .slice r.t.ra r.t.t.rs.length r.t.rc, .slice r.t.wa r.t.t.ws.length r.t.wc, .bool r.t.t.out, .string r.t.t.nm, .string r.nm, .bool r.yes, .slice r.b.va r.b.vs.length r.b.vc, .slice r.b.pa r.b.ps.length r.b.pc, .slice r.b.qa r.b.qs.length r.b.qc, .int .i64 r.b.cs, .int .i64 r.b.nx] 44)
 have HB0 : Hid (Below w.heap.size w (w.alloc (.cells #[.int .i64 r.k, .int .i64 r.t.t.id, .int .i64 r.t.t.st, .int .i64 r.t.t.snap, .int .i64 r.t.t.cs, .slice r.t.ra r.t.t.rs.length r.t.rc, .slice r.t.wa r.t.t.ws.length r.t.wc, .bool r.t.t.out, .string r.t.t.nm, .string r.nm, .bool r.yes, .slice r.b.va r.b.vs.length r.b.vc, .slice r.b.pa r.b.ps.length r.b.pc, .slice r.b.qa r.b.qs.length r.b.qc, .int .i64 r.b.cs, .int .i64 r.b.nx] 44))) := (belowRefl w).alloc (Nat.le_refl _) _
 have CI : Hid (∀ W, Calls Tryz.prog 47 #[.int .i64 r.k, .int .i64 1, .int .i64 4] W fun e w' => e = .returned (.bool true) ∧ w' = W) := fun W => in57 r.k 1 4 true (by rw [hk]; decide) W
 have CT : Hid (∀ W, Below w.heap.size w W → Calls Tryz.prog 48 #[.agg #[.int .i64 r.t.t.id, .int .i64 r.t.t.st, .int .i64 r.t.t.snap, .int .i64 r.t.t.cs, .slice r.t.ra r.t.t.rs.length r.t.rc, .slice r.t.wa r.t.t.ws.length r.t.wc, .bool r.t.t.out, .string r.t.t.nm]] W fun e w' => e = .returned (.bool (txnB r.t.t)) ∧ Below W.heap.size W w') := fun W h => stxn r.t.t r.t.ra r.t.wa r.t.rc r.t.wc hf.t W (hp.t.below h)
 have CB : Hid (∀ W, Below w.heap.size w W → Calls Tryz.prog 52 #[.agg #[.slice r.b.va r.b.vs.length r.b.vc, .slice r.b.pa r.b.ps.length r.b.pc, .slice r.b.qa r.b.qs.length r.b.qc, .int .i64 r.b.cs, .int .i64 r.b.nx]] W fun e w' => e = .returned (.bool (noB r.b)) ∧ Below W.heap.size W w') := fun W h => snoB r.b W
 have e1 : (r.k == 1) = true := by simp [hk]
 have g1 : (r.k != 1) = false := by simp [hk]
 have e2 : (r.k == 2) = false := by simp [hk]
 have g2 : (r.k != 2) = true := by simp [hk]
 have e3 : (r.k == 3) = false := by simp [hk]
 have g3 : (r.k != 3) = true := by simp [hk]
 have e4 : (r.k == 4) = false := by simp [hk]
 have g4 : (r.k != 4) = true := by simp [hk]
 clear hp hf
 cases h0 : txnB r.t.t
 ·have HN : Hid (recB r = false) := by show _ = _; unfold recB; simp [hk, h0]
  clear hk
  generalize recB r = rb at *
  rw [h0] at CT
  clear h0
  go_enter Tryz.func16, Tryz.ntmps16
  go_wp2_with fail
  refine (CI.out _).mono ?_
  rintro e w0 ⟨rfl, rfl⟩
  go_wp2_with fail
  refine (CT.out _ HB0.out).mono ?_
  rintro e w1 ⟨rfl, hb⟩
  have BX1 := hide (BX0.out.below hb)
  have HB1 := hide (HB0.out.trans (hb.mono HB0.out.size))
  clear hb BX0 HB0
  have x0 := BX1.out.c0
  have x1 := BX1.out.c1
  have x2 := BX1.out.c2
  have x3 := BX1.out.c3
  have x4 := BX1.out.c4
  have x5 := BX1.out.c5
  have x6 := BX1.out.c6
  have x7 := BX1.out.c7
  have x8 := BX1.out.c8
  have x9 := BX1.out.c9
  have x10 := BX1.out.c10
  have x11 := BX1.out.c11
  have x12 := BX1.out.c12
  have x13 := BX1.out.c13
  have x14 := BX1.out.c14
  have x15 := BX1.out.c15
  go_wp2
  go_ret
  exact ⟨ret_bool HN.out.symm, HB1.out⟩
 ·rw [h0] at CT
  by_cases h1 : r.t.t.st = 3
  rotate_left
  ·have s5 : (r.t.t.st != 3) = true := by simp [h1]
   have HN : Hid (recB r = false) := by show _ = _; unfold recB; simp [hk, h0, h1]
   clear hk
   clear h1
   generalize recB r = rb at *
   go_enter Tryz.func16, Tryz.ntmps16
   go_wp2_with fail
   refine (CI.out _).mono ?_
   rintro e w0 ⟨rfl, rfl⟩
   go_wp2_with fail
   refine (CT.out _ HB0.out).mono ?_
   rintro e w1 ⟨rfl, hb⟩
   have BX1 := hide (BX0.out.below hb)
   have HB1 := hide (HB0.out.trans (hb.mono HB0.out.size))
   clear hb BX0 HB0
   have x0 := BX1.out.c0
   have x1 := BX1.out.c1
   have x2 := BX1.out.c2
   have x3 := BX1.out.c3
   have x4 := BX1.out.c4
   have x5 := BX1.out.c5
   have x6 := BX1.out.c6
   have x7 := BX1.out.c7
   have x8 := BX1.out.c8
   have x9 := BX1.out.c9
   have x10 := BX1.out.c10
   have x11 := BX1.out.c11
   have x12 := BX1.out.c12
   have x13 := BX1.out.c13
   have x14 := BX1.out.c14
   have x15 := BX1.out.c15
   go_wp2
   go_ret
   exact ⟨ret_bool HN.out.symm, HB1.out⟩
  ·have s5 : (r.t.t.st != 3) = false := by simp [h1]
   cases h2 : r.nm.toList.isEmpty
   ·have HN : Hid (recB r = false) := by show _ = _; unfold recB; simp [hk, h0, h1, h2]
    clear hk
    clear h1
    generalize recB r = rb at *
    go_enter Tryz.func16, Tryz.ntmps16
    go_wp2_with fail
    refine (CI.out _).mono ?_
    rintro e w0 ⟨rfl, rfl⟩
    go_wp2_with fail
    refine (CT.out _ HB0.out).mono ?_
    rintro e w1 ⟨rfl, hb⟩
    have BX1 := hide (BX0.out.below hb)
    have HB1 := hide (HB0.out.trans (hb.mono HB0.out.size))
    clear hb BX0 HB0
    have x0 := BX1.out.c0
    have x1 := BX1.out.c1
    have x2 := BX1.out.c2
    have x3 := BX1.out.c3
    have x4 := BX1.out.c4
    have x5 := BX1.out.c5
    have x6 := BX1.out.c6
    have x7 := BX1.out.c7
    have x8 := BX1.out.c8
    have x9 := BX1.out.c9
    have x10 := BX1.out.c10
    have x11 := BX1.out.c11
    have x12 := BX1.out.c12
    have x13 := BX1.out.c13
    have x14 := BX1.out.c14
    have x15 := BX1.out.c15
    go_wp2
    go_ret
    exact ⟨ret_bool HN.out.symm, HB1.out⟩
   ·rcases Bool.eq_false_or_eq_true r.yes with h3 | h3
    ·have HN : Hid (recB r = false) := by show _ = _; unfold recB; simp [hk, h0, h1, h2, h3]
     clear hk
     have HY := hide h3
     clear h3
     clear h1
     generalize recB r = rb at *
     go_enter Tryz.func16, Tryz.ntmps16
     go_wp2_with fail
     refine (CI.out _).mono ?_
     rintro e w0 ⟨rfl, rfl⟩
     go_wp2_with fail
     refine (CT.out _ HB0.out).mono ?_
     rintro e w1 ⟨rfl, hb⟩
     have BX1 := hide (BX0.out.below hb)
     have HB1 := hide (HB0.out.trans (hb.mono HB0.out.size))
     clear hb BX0 HB0
     have x0 := BX1.out.c0
     have x1 := BX1.out.c1
     have x2 := BX1.out.c2
     have x3 := BX1.out.c3
     have x4 := BX1.out.c4
     have x5 := BX1.out.c5
     have x6 := BX1.out.c6
     have x7 := BX1.out.c7
     have x8 := BX1.out.c8
     have x9 := BX1.out.c9
     have x10 := BX1.out.c10
     have x11 := BX1.out.c11
     have x12 := BX1.out.c12
     have x13 := BX1.out.c13
     have x14 := BX1.out.c14
     have x15 := BX1.out.c15
     rw [HY.out] at x10
     go_wp2
     go_ret
     exact ⟨ret_bool HN.out.symm, HB1.out⟩
    ·have HN : Hid (recB r = (noB r.b)) := by show _ = _; unfold recB; simp [hk, h0, h1, h2, h3]
     clear hk
     have HY := hide h3
     clear h3
     clear h1
     generalize recB r = rb at *
     generalize (noB r.b) = vv at *
     go_enter Tryz.func16, Tryz.ntmps16
     go_wp2_with fail
     refine (CI.out _).mono ?_
     rintro e w0 ⟨rfl, rfl⟩
     go_wp2_with fail
     refine (CT.out _ HB0.out).mono ?_
     rintro e w1 ⟨rfl, hb⟩
     have BX1 := hide (BX0.out.below hb)
     have HB1 := hide (HB0.out.trans (hb.mono HB0.out.size))
     clear hb BX0 HB0
     have x0 := BX1.out.c0
     have x1 := BX1.out.c1
     have x2 := BX1.out.c2
     have x3 := BX1.out.c3
     have x4 := BX1.out.c4
     have x5 := BX1.out.c5
     have x6 := BX1.out.c6
     have x7 := BX1.out.c7
     have x8 := BX1.out.c8
     have x9 := BX1.out.c9
     have x10 := BX1.out.c10
     have x11 := BX1.out.c11
     have x12 := BX1.out.c12
     have x13 := BX1.out.c13
     have x14 := BX1.out.c14
     have x15 := BX1.out.c15
     rw [HY.out] at x10
     go_wp2_with fail
     refine (CB.out _ HB1.out).mono ?_
     rintro e w3 ⟨rfl, hb⟩
     have HB2 := hide (HB1.out.trans (hb.mono HB1.out.size))
     clear hb
     go_wp2
     go_ret
     exact ⟨ret_bool HN.out.symm, HB2.out⟩

set_option maxRecDepth 100000 in
set_option maxHeartbeats 2000000 in
theorem srec2 (r : Rc) (hk : r.k = 2) (hf : RcFit r) (w : World) (hp : RcRows w r) :
  Calls Tryz.prog 16 #[.agg #[.int .i64 r.k, .int .i64 r.t.t.id, .int .i64 r.t.t.st, .int .i64 r.t.t.snap, .int .i64 r.t.t.cs, .slice r.t.ra r.t.t.rs.length r.t.rc, .slice r.t.wa r.t.t.ws.length r.t.wc, .bool r.t.t.out, .string r.t.t.nm, .string r.nm, .bool r.yes, .slice r.b.va r.b.vs.length r.b.vc, .slice r.b.pa r.b.ps.length r.b.pc, .slice r.b.qa r.b.qs.length r.b.qc, .int .i64 r.b.cs, .int .i64 r.b.nx]] w fun e w' => e = .returned (.bool (recB r)) ∧ Below w.heap.size w w' := by
 have BX0 := hide (Bx.new w [.int .i64 r.k, .int .i64 r.t.t.id, .int .i64 r.t.t.st, .int .i64 r.t.t.snap, .int .i64 r.t.t.cs, .slice r.t.ra r.t.t.rs.length r.t.rc, .slice r.t.wa r.t.t.ws.length r.t.wc, .bool r.t.t.out, .string r.t.t.nm, .string r.nm, .bool r.yes, .slice r.b.va r.b.vs.length r.b.vc, .slice r.b.pa r.b.ps.length r.b.pc, .slice r.b.qa r.b.qs.length r.b.qc, .int .i64 r.b.cs, .int .i64 r.b.nx] 44)
 have HB0 : Hid (Below w.heap.size w (w.alloc (.cells #[.int .i64 r.k, .int .i64 r.t.t.id, .int .i64 r.t.t.st, .int .i64 r.t.t.snap, .int .i64 r.t.t.cs, .slice r.t.ra r.t.t.rs.length r.t.rc, .slice r.t.wa r.t.t.ws.length r.t.wc, .bool r.t.t.out, .string r.t.t.nm, .string r.nm, .bool r.yes, .slice r.b.va r.b.vs.length r.b.vc, .slice r.b.pa r.b.ps.length r.b.pc, .slice r.b.qa r.b.qs.length r.b.qc, .int .i64 r.b.cs, .int .i64 r.b.nx] 44))) := (belowRefl w).alloc (Nat.le_refl _) _
 have CI : Hid (∀ W, Calls Tryz.prog 47 #[.int .i64 r.k, .int .i64 1, .int .i64 4] W fun e w' => e = .returned (.bool true) ∧ w' = W) := fun W => in57 r.k 1 4 true (by rw [hk]; decide) W
 have CT : Hid (∀ W, Below w.heap.size w W → Calls Tryz.prog 48 #[.agg #[.int .i64 r.t.t.id, .int .i64 r.t.t.st, .int .i64 r.t.t.snap, .int .i64 r.t.t.cs, .slice r.t.ra r.t.t.rs.length r.t.rc, .slice r.t.wa r.t.t.ws.length r.t.wc, .bool r.t.t.out, .string r.t.t.nm]] W fun e w' => e = .returned (.bool (txnB r.t.t)) ∧ Below W.heap.size W w') := fun W h => stxn r.t.t r.t.ra r.t.wa r.t.rc r.t.wc hf.t W (hp.t.below h)
 have CB : Hid (∀ W, Below w.heap.size w W → Calls Tryz.prog 52 #[.agg #[.slice r.b.va r.b.vs.length r.b.vc, .slice r.b.pa r.b.ps.length r.b.pc, .slice r.b.qa r.b.qs.length r.b.qc, .int .i64 r.b.cs, .int .i64 r.b.nx]] W fun e w' => e = .returned (.bool (noB r.b)) ∧ Below W.heap.size W w') := fun W h => snoB r.b W
 have e1 : (r.k == 1) = false := by simp [hk]
 have g1 : (r.k != 1) = true := by simp [hk]
 have e2 : (r.k == 2) = true := by simp [hk]
 have g2 : (r.k != 2) = false := by simp [hk]
 have e3 : (r.k == 3) = false := by simp [hk]
 have g3 : (r.k != 3) = true := by simp [hk]
 have e4 : (r.k == 4) = false := by simp [hk]
 have g4 : (r.k != 4) = true := by simp [hk]
 clear hp hf
 cases h0 : txnB r.t.t
 ·have HN : Hid (recB r = false) := by show _ = _; unfold recB; simp [hk, h0]
  clear hk
  generalize recB r = rb at *
  rw [h0] at CT
  clear h0
  go_enter Tryz.func16, Tryz.ntmps16
  go_wp2_with fail
  refine (CI.out _).mono ?_
  rintro e w0 ⟨rfl, rfl⟩
  go_wp2_with fail
  refine (CT.out _ HB0.out).mono ?_
  rintro e w1 ⟨rfl, hb⟩
  have BX1 := hide (BX0.out.below hb)
  have HB1 := hide (HB0.out.trans (hb.mono HB0.out.size))
  clear hb BX0 HB0
  have x0 := BX1.out.c0
  have x1 := BX1.out.c1
  have x2 := BX1.out.c2
  have x3 := BX1.out.c3
  have x4 := BX1.out.c4
  have x5 := BX1.out.c5
  have x6 := BX1.out.c6
  have x7 := BX1.out.c7
  have x8 := BX1.out.c8
  have x9 := BX1.out.c9
  have x10 := BX1.out.c10
  have x11 := BX1.out.c11
  have x12 := BX1.out.c12
  have x13 := BX1.out.c13
  have x14 := BX1.out.c14
  have x15 := BX1.out.c15
  go_wp2
  go_ret
  exact ⟨ret_bool HN.out.symm, HB1.out⟩
 ·rw [h0] at CT
  by_cases h1 : r.t.t.st = 2
  rotate_left
  ·have s5 : (r.t.t.st != 2) = true := by simp [h1]
   have HN : Hid (recB r = false) := by show _ = _; unfold recB; simp [hk, h0, h1]
   clear hk
   clear h1
   generalize recB r = rb at *
   go_enter Tryz.func16, Tryz.ntmps16
   go_wp2_with fail
   refine (CI.out _).mono ?_
   rintro e w0 ⟨rfl, rfl⟩
   go_wp2_with fail
   refine (CT.out _ HB0.out).mono ?_
   rintro e w1 ⟨rfl, hb⟩
   have BX1 := hide (BX0.out.below hb)
   have HB1 := hide (HB0.out.trans (hb.mono HB0.out.size))
   clear hb BX0 HB0
   have x0 := BX1.out.c0
   have x1 := BX1.out.c1
   have x2 := BX1.out.c2
   have x3 := BX1.out.c3
   have x4 := BX1.out.c4
   have x5 := BX1.out.c5
   have x6 := BX1.out.c6
   have x7 := BX1.out.c7
   have x8 := BX1.out.c8
   have x9 := BX1.out.c9
   have x10 := BX1.out.c10
   have x11 := BX1.out.c11
   have x12 := BX1.out.c12
   have x13 := BX1.out.c13
   have x14 := BX1.out.c14
   have x15 := BX1.out.c15
   go_wp2
   go_ret
   exact ⟨ret_bool HN.out.symm, HB1.out⟩
  ·have s5 : (r.t.t.st != 2) = false := by simp [h1]
   cases h2 : r.nm.toList.isEmpty
   ·have HN : Hid (recB r = false) := by show _ = _; unfold recB; simp [hk, h0, h1, h2]
    clear hk
    clear h1
    generalize recB r = rb at *
    go_enter Tryz.func16, Tryz.ntmps16
    go_wp2_with fail
    refine (CI.out _).mono ?_
    rintro e w0 ⟨rfl, rfl⟩
    go_wp2_with fail
    refine (CT.out _ HB0.out).mono ?_
    rintro e w1 ⟨rfl, hb⟩
    have BX1 := hide (BX0.out.below hb)
    have HB1 := hide (HB0.out.trans (hb.mono HB0.out.size))
    clear hb BX0 HB0
    have x0 := BX1.out.c0
    have x1 := BX1.out.c1
    have x2 := BX1.out.c2
    have x3 := BX1.out.c3
    have x4 := BX1.out.c4
    have x5 := BX1.out.c5
    have x6 := BX1.out.c6
    have x7 := BX1.out.c7
    have x8 := BX1.out.c8
    have x9 := BX1.out.c9
    have x10 := BX1.out.c10
    have x11 := BX1.out.c11
    have x12 := BX1.out.c12
    have x13 := BX1.out.c13
    have x14 := BX1.out.c14
    have x15 := BX1.out.c15
    go_wp2
    go_ret
    exact ⟨ret_bool HN.out.symm, HB1.out⟩
   ·rcases Bool.eq_false_or_eq_true r.yes with h3 | h3
    ·have HN : Hid (recB r = false) := by show _ = _; unfold recB; simp [hk, h0, h1, h2, h3]
     clear hk
     have HY := hide h3
     clear h3
     clear h1
     generalize recB r = rb at *
     go_enter Tryz.func16, Tryz.ntmps16
     go_wp2_with fail
     refine (CI.out _).mono ?_
     rintro e w0 ⟨rfl, rfl⟩
     go_wp2_with fail
     refine (CT.out _ HB0.out).mono ?_
     rintro e w1 ⟨rfl, hb⟩
     have BX1 := hide (BX0.out.below hb)
     have HB1 := hide (HB0.out.trans (hb.mono HB0.out.size))
     clear hb BX0 HB0
     have x0 := BX1.out.c0
     have x1 := BX1.out.c1
     have x2 := BX1.out.c2
     have x3 := BX1.out.c3
     have x4 := BX1.out.c4
     have x5 := BX1.out.c5
     have x6 := BX1.out.c6
     have x7 := BX1.out.c7
     have x8 := BX1.out.c8
     have x9 := BX1.out.c9
     have x10 := BX1.out.c10
     have x11 := BX1.out.c11
     have x12 := BX1.out.c12
     have x13 := BX1.out.c13
     have x14 := BX1.out.c14
     have x15 := BX1.out.c15
     rw [HY.out] at x10
     go_wp2
     go_ret
     exact ⟨ret_bool HN.out.symm, HB1.out⟩
    ·have HN : Hid (recB r = (noB r.b)) := by show _ = _; unfold recB; simp [hk, h0, h1, h2, h3]
     clear hk
     have HY := hide h3
     clear h3
     clear h1
     generalize recB r = rb at *
     generalize (noB r.b) = vv at *
     go_enter Tryz.func16, Tryz.ntmps16
     go_wp2_with fail
     refine (CI.out _).mono ?_
     rintro e w0 ⟨rfl, rfl⟩
     go_wp2_with fail
     refine (CT.out _ HB0.out).mono ?_
     rintro e w1 ⟨rfl, hb⟩
     have BX1 := hide (BX0.out.below hb)
     have HB1 := hide (HB0.out.trans (hb.mono HB0.out.size))
     clear hb BX0 HB0
     have x0 := BX1.out.c0
     have x1 := BX1.out.c1
     have x2 := BX1.out.c2
     have x3 := BX1.out.c3
     have x4 := BX1.out.c4
     have x5 := BX1.out.c5
     have x6 := BX1.out.c6
     have x7 := BX1.out.c7
     have x8 := BX1.out.c8
     have x9 := BX1.out.c9
     have x10 := BX1.out.c10
     have x11 := BX1.out.c11
     have x12 := BX1.out.c12
     have x13 := BX1.out.c13
     have x14 := BX1.out.c14
     have x15 := BX1.out.c15
     rw [HY.out] at x10
     go_wp2_with fail
     refine (CB.out _ HB1.out).mono ?_
     rintro e w3 ⟨rfl, hb⟩
     have HB2 := hide (HB1.out.trans (hb.mono HB1.out.size))
     clear hb
     go_wp2
     go_ret
     exact ⟨ret_bool HN.out.symm, HB2.out⟩

set_option maxRecDepth 100000 in
set_option maxHeartbeats 2000000 in
theorem srec3 (r : Rc) (hk : r.k = 3) (hf : RcFit r) (w : World) (_ : RcRows w r) :
  Calls Tryz.prog 16 #[.agg #[.int .i64 r.k, .int .i64 r.t.t.id, .int .i64 r.t.t.st, .int .i64 r.t.t.snap, .int .i64 r.t.t.cs, .slice r.t.ra r.t.t.rs.length r.t.rc, .slice r.t.wa r.t.t.ws.length r.t.wc, .bool r.t.t.out, .string r.t.t.nm, .string r.nm, .bool r.yes, .slice r.b.va r.b.vs.length r.b.vc, .slice r.b.pa r.b.ps.length r.b.pc, .slice r.b.qa r.b.qs.length r.b.qc, .int .i64 r.b.cs, .int .i64 r.b.nx]] w fun e w' => e = .returned (.bool (recB r)) ∧ Below w.heap.size w w' := by
 have BX0 := hide (Bx.new w [.int .i64 r.k, .int .i64 r.t.t.id, .int .i64 r.t.t.st, .int .i64 r.t.t.snap, .int .i64 r.t.t.cs, .slice r.t.ra r.t.t.rs.length r.t.rc, .slice r.t.wa r.t.t.ws.length r.t.wc, .bool r.t.t.out, .string r.t.t.nm, .string r.nm, .bool r.yes, .slice r.b.va r.b.vs.length r.b.vc, .slice r.b.pa r.b.ps.length r.b.pc, .slice r.b.qa r.b.qs.length r.b.qc, .int .i64 r.b.cs, .int .i64 r.b.nx] 44)
 have HB0 : Hid (Below w.heap.size w (w.alloc (.cells #[.int .i64 r.k, .int .i64 r.t.t.id, .int .i64 r.t.t.st, .int .i64 r.t.t.snap, .int .i64 r.t.t.cs, .slice r.t.ra r.t.t.rs.length r.t.rc, .slice r.t.wa r.t.t.ws.length r.t.wc, .bool r.t.t.out, .string r.t.t.nm, .string r.nm, .bool r.yes, .slice r.b.va r.b.vs.length r.b.vc, .slice r.b.pa r.b.ps.length r.b.pc, .slice r.b.qa r.b.qs.length r.b.qc, .int .i64 r.b.cs, .int .i64 r.b.nx] 44))) := (belowRefl w).alloc (Nat.le_refl _) _
 have CI : Hid (∀ W, Calls Tryz.prog 47 #[.int .i64 r.k, .int .i64 1, .int .i64 4] W fun e w' => e = .returned (.bool true) ∧ w' = W) := fun W => in57 r.k 1 4 true (by rw [hk]; decide) W
 have CT : Hid (∀ W, Below w.heap.size w W → Calls Tryz.prog 49 #[.agg #[.int .i64 r.t.t.id, .int .i64 r.t.t.st, .int .i64 r.t.t.snap, .int .i64 r.t.t.cs, .slice r.t.ra r.t.t.rs.length r.t.rc, .slice r.t.wa r.t.t.ws.length r.t.wc, .bool r.t.t.out, .string r.t.t.nm]] W fun e w' => e = .returned (.bool (noT r.t.t)) ∧ Below W.heap.size W w') := fun W h => snoT r.t.t r.t.ra r.t.wa r.t.rc r.t.wc W
 have CK : Hid (∀ W, Calls Tryz.prog 50 #[.string r.nm] W fun e w' => e = .returned (.bool (keyB r.nm)) ∧ w' = W) := fun W => skey r.nm hf.nm W
 have CB : Hid (∀ W, Below w.heap.size w W → Calls Tryz.prog 52 #[.agg #[.slice r.b.va r.b.vs.length r.b.vc, .slice r.b.pa r.b.ps.length r.b.pc, .slice r.b.qa r.b.qs.length r.b.qc, .int .i64 r.b.cs, .int .i64 r.b.nx]] W fun e w' => e = .returned (.bool (noB r.b)) ∧ Below W.heap.size W w') := fun W h => snoB r.b W
 have e1 : (r.k == 1) = false := by simp [hk]
 have g1 : (r.k != 1) = true := by simp [hk]
 have e2 : (r.k == 2) = false := by simp [hk]
 have g2 : (r.k != 2) = true := by simp [hk]
 have e3 : (r.k == 3) = true := by simp [hk]
 have g3 : (r.k != 3) = false := by simp [hk]
 have e4 : (r.k == 4) = false := by simp [hk]
 have g4 : (r.k != 4) = true := by simp [hk]
 clear hf
 cases h0 : noT r.t.t
 ·have HN : Hid (recB r = false) := by show _ = _; unfold recB; simp [hk, h0]
  clear hk
  generalize recB r = rb at *
  rw [h0] at CT
  clear h0
  go_enter Tryz.func16, Tryz.ntmps16
  go_wp2_with fail
  refine (CI.out _).mono ?_
  rintro e w0 ⟨rfl, rfl⟩
  go_wp2_with fail
  refine (CT.out _ HB0.out).mono ?_
  rintro e w1 ⟨rfl, hb⟩
  have BX1 := hide (BX0.out.below hb)
  have HB1 := hide (HB0.out.trans (hb.mono HB0.out.size))
  clear hb BX0 HB0
  have x0 := BX1.out.c0
  have x1 := BX1.out.c1
  have x2 := BX1.out.c2
  have x3 := BX1.out.c3
  have x4 := BX1.out.c4
  have x5 := BX1.out.c5
  have x6 := BX1.out.c6
  have x7 := BX1.out.c7
  have x8 := BX1.out.c8
  have x9 := BX1.out.c9
  have x10 := BX1.out.c10
  have x11 := BX1.out.c11
  have x12 := BX1.out.c12
  have x13 := BX1.out.c13
  have x14 := BX1.out.c14
  have x15 := BX1.out.c15
  go_wp2
  go_ret
  exact ⟨ret_bool HN.out.symm, HB1.out⟩
 ·rw [h0] at CT
  cases h1 : keyB r.nm
  ·have HN : Hid (recB r = false) := by show _ = _; unfold recB; simp [hk, h0, h1]
   clear hk
   generalize recB r = rb at *
   rw [h1] at CK
   clear h1
   go_enter Tryz.func16, Tryz.ntmps16
   go_wp2_with fail
   refine (CI.out _).mono ?_
   rintro e w0 ⟨rfl, rfl⟩
   go_wp2_with fail
   refine (CT.out _ HB0.out).mono ?_
   rintro e w1 ⟨rfl, hb⟩
   have BX1 := hide (BX0.out.below hb)
   have HB1 := hide (HB0.out.trans (hb.mono HB0.out.size))
   clear hb BX0 HB0
   have x0 := BX1.out.c0
   have x1 := BX1.out.c1
   have x2 := BX1.out.c2
   have x3 := BX1.out.c3
   have x4 := BX1.out.c4
   have x5 := BX1.out.c5
   have x6 := BX1.out.c6
   have x7 := BX1.out.c7
   have x8 := BX1.out.c8
   have x9 := BX1.out.c9
   have x10 := BX1.out.c10
   have x11 := BX1.out.c11
   have x12 := BX1.out.c12
   have x13 := BX1.out.c13
   have x14 := BX1.out.c14
   have x15 := BX1.out.c15
   go_wp2_with fail
   refine (CK.out _).mono ?_
   rintro e w2 ⟨rfl, rfl⟩
   go_wp2
   go_ret
   exact ⟨ret_bool HN.out.symm, HB1.out⟩
  ·rw [h1] at CK
   have HN : Hid (recB r = (noB r.b)) := by show _ = _; unfold recB; simp [hk, h0, h1]
   clear hk
   generalize recB r = rb at *
   generalize (noB r.b) = vv at *
   go_enter Tryz.func16, Tryz.ntmps16
   go_wp2_with fail
   refine (CI.out _).mono ?_
   rintro e w0 ⟨rfl, rfl⟩
   go_wp2_with fail
   refine (CT.out _ HB0.out).mono ?_
   rintro e w1 ⟨rfl, hb⟩
   have BX1 := hide (BX0.out.below hb)
   have HB1 := hide (HB0.out.trans (hb.mono HB0.out.size))
   clear hb BX0 HB0
   have x0 := BX1.out.c0
   have x1 := BX1.out.c1
   have x2 := BX1.out.c2
   have x3 := BX1.out.c3
   have x4 := BX1.out.c4
   have x5 := BX1.out.c5
   have x6 := BX1.out.c6
   have x7 := BX1.out.c7
   have x8 := BX1.out.c8
   have x9 := BX1.out.c9
   have x10 := BX1.out.c10
   have x11 := BX1.out.c11
   have x12 := BX1.out.c12
   have x13 := BX1.out.c13
   have x14 := BX1.out.c14
   have x15 := BX1.out.c15
   go_wp2_with fail
   refine (CK.out _).mono ?_
   rintro e w2 ⟨rfl, rfl⟩
   go_wp2_with fail
   refine (CB.out _ HB1.out).mono ?_
   rintro e w3 ⟨rfl, hb⟩
   have HB2 := hide (HB1.out.trans (hb.mono HB1.out.size))
   clear hb
   go_wp2
   go_ret
   exact ⟨ret_bool HN.out.symm, HB2.out⟩

set_option maxRecDepth 100000 in
set_option maxHeartbeats 2000000 in
theorem srec4 (r : Rc) (hk : r.k = 4) (hf : RcFit r) (w : World) (hp : RcRows w r) :
  Calls Tryz.prog 16 #[.agg #[.int .i64 r.k, .int .i64 r.t.t.id, .int .i64 r.t.t.st, .int .i64 r.t.t.snap, .int .i64 r.t.t.cs, .slice r.t.ra r.t.t.rs.length r.t.rc, .slice r.t.wa r.t.t.ws.length r.t.wc, .bool r.t.t.out, .string r.t.t.nm, .string r.nm, .bool r.yes, .slice r.b.va r.b.vs.length r.b.vc, .slice r.b.pa r.b.ps.length r.b.pc, .slice r.b.qa r.b.qs.length r.b.qc, .int .i64 r.b.cs, .int .i64 r.b.nx]] w fun e w' => e = .returned (.bool (recB r)) ∧ Below w.heap.size w w' := by
 have BX0 := hide (Bx.new w [.int .i64 r.k, .int .i64 r.t.t.id, .int .i64 r.t.t.st, .int .i64 r.t.t.snap, .int .i64 r.t.t.cs, .slice r.t.ra r.t.t.rs.length r.t.rc, .slice r.t.wa r.t.t.ws.length r.t.wc, .bool r.t.t.out, .string r.t.t.nm, .string r.nm, .bool r.yes, .slice r.b.va r.b.vs.length r.b.vc, .slice r.b.pa r.b.ps.length r.b.pc, .slice r.b.qa r.b.qs.length r.b.qc, .int .i64 r.b.cs, .int .i64 r.b.nx] 44)
 have HB0 : Hid (Below w.heap.size w (w.alloc (.cells #[.int .i64 r.k, .int .i64 r.t.t.id, .int .i64 r.t.t.st, .int .i64 r.t.t.snap, .int .i64 r.t.t.cs, .slice r.t.ra r.t.t.rs.length r.t.rc, .slice r.t.wa r.t.t.ws.length r.t.wc, .bool r.t.t.out, .string r.t.t.nm, .string r.nm, .bool r.yes, .slice r.b.va r.b.vs.length r.b.vc, .slice r.b.pa r.b.ps.length r.b.pc, .slice r.b.qa r.b.qs.length r.b.qc, .int .i64 r.b.cs, .int .i64 r.b.nx] 44))) := (belowRefl w).alloc (Nat.le_refl _) _
 have CI : Hid (∀ W, Calls Tryz.prog 47 #[.int .i64 r.k, .int .i64 1, .int .i64 4] W fun e w' => e = .returned (.bool true) ∧ w' = W) := fun W => in57 r.k 1 4 true (by rw [hk]; decide) W
 have CT : Hid (∀ W, Below w.heap.size w W → Calls Tryz.prog 49 #[.agg #[.int .i64 r.t.t.id, .int .i64 r.t.t.st, .int .i64 r.t.t.snap, .int .i64 r.t.t.cs, .slice r.t.ra r.t.t.rs.length r.t.rc, .slice r.t.wa r.t.t.ws.length r.t.wc, .bool r.t.t.out, .string r.t.t.nm]] W fun e w' => e = .returned (.bool (noT r.t.t)) ∧ Below W.heap.size W w') := fun W h => snoT r.t.t r.t.ra r.t.wa r.t.rc r.t.wc W
 have CB : Hid (∀ W, Below w.heap.size w W → Calls Tryz.prog 51 #[.agg #[.slice r.b.va r.b.vs.length r.b.vc, .slice r.b.pa r.b.ps.length r.b.pc, .slice r.b.qa r.b.qs.length r.b.qc, .int .i64 r.b.cs, .int .i64 r.b.nx]] W fun e w' => e = .returned (.bool (sbB r.b)) ∧ Below W.heap.size W w') := fun W h => sbase5 r.b hf.b W (hp.b.below h)
 have e1 : (r.k == 1) = false := by simp [hk]
 have g1 : (r.k != 1) = true := by simp [hk]
 have e2 : (r.k == 2) = false := by simp [hk]
 have g2 : (r.k != 2) = true := by simp [hk]
 have e3 : (r.k == 3) = false := by simp [hk]
 have g3 : (r.k != 3) = true := by simp [hk]
 have e4 : (r.k == 4) = true := by simp [hk]
 have g4 : (r.k != 4) = false := by simp [hk]
 clear hp hf
 cases h0 : noT r.t.t
 ·have HN : Hid (recB r = false) := by show _ = _; unfold recB; simp [hk, h0]
  clear hk
  generalize recB r = rb at *
  rw [h0] at CT
  clear h0
  go_enter Tryz.func16, Tryz.ntmps16
  go_wp2_with fail
  refine (CI.out _).mono ?_
  rintro e w0 ⟨rfl, rfl⟩
  go_wp2_with fail
  refine (CT.out _ HB0.out).mono ?_
  rintro e w1 ⟨rfl, hb⟩
  have BX1 := hide (BX0.out.below hb)
  have HB1 := hide (HB0.out.trans (hb.mono HB0.out.size))
  clear hb BX0 HB0
  have x0 := BX1.out.c0
  have x1 := BX1.out.c1
  have x2 := BX1.out.c2
  have x3 := BX1.out.c3
  have x4 := BX1.out.c4
  have x5 := BX1.out.c5
  have x6 := BX1.out.c6
  have x7 := BX1.out.c7
  have x8 := BX1.out.c8
  have x9 := BX1.out.c9
  have x10 := BX1.out.c10
  have x11 := BX1.out.c11
  have x12 := BX1.out.c12
  have x13 := BX1.out.c13
  have x14 := BX1.out.c14
  have x15 := BX1.out.c15
  go_wp2
  go_ret
  exact ⟨ret_bool HN.out.symm, HB1.out⟩
 ·rw [h0] at CT
  cases h1 : r.nm.toList.isEmpty
  ·have HN : Hid (recB r = false) := by show _ = _; unfold recB; simp [hk, h0, h1]
   clear hk
   generalize recB r = rb at *
   go_enter Tryz.func16, Tryz.ntmps16
   go_wp2_with fail
   refine (CI.out _).mono ?_
   rintro e w0 ⟨rfl, rfl⟩
   go_wp2_with fail
   refine (CT.out _ HB0.out).mono ?_
   rintro e w1 ⟨rfl, hb⟩
   have BX1 := hide (BX0.out.below hb)
   have HB1 := hide (HB0.out.trans (hb.mono HB0.out.size))
   clear hb BX0 HB0
   have x0 := BX1.out.c0
   have x1 := BX1.out.c1
   have x2 := BX1.out.c2
   have x3 := BX1.out.c3
   have x4 := BX1.out.c4
   have x5 := BX1.out.c5
   have x6 := BX1.out.c6
   have x7 := BX1.out.c7
   have x8 := BX1.out.c8
   have x9 := BX1.out.c9
   have x10 := BX1.out.c10
   have x11 := BX1.out.c11
   have x12 := BX1.out.c12
   have x13 := BX1.out.c13
   have x14 := BX1.out.c14
   have x15 := BX1.out.c15
   go_wp2
   go_ret
   exact ⟨ret_bool HN.out.symm, HB1.out⟩
  ·rcases Bool.eq_false_or_eq_true r.yes with h2 | h2
   ·have HN : Hid (recB r = false) := by show _ = _; unfold recB; simp [hk, h0, h1, h2]
    clear hk
    have HY := hide h2
    clear h2
    generalize recB r = rb at *
    go_enter Tryz.func16, Tryz.ntmps16
    go_wp2_with fail
    refine (CI.out _).mono ?_
    rintro e w0 ⟨rfl, rfl⟩
    go_wp2_with fail
    refine (CT.out _ HB0.out).mono ?_
    rintro e w1 ⟨rfl, hb⟩
    have BX1 := hide (BX0.out.below hb)
    have HB1 := hide (HB0.out.trans (hb.mono HB0.out.size))
    clear hb BX0 HB0
    have x0 := BX1.out.c0
    have x1 := BX1.out.c1
    have x2 := BX1.out.c2
    have x3 := BX1.out.c3
    have x4 := BX1.out.c4
    have x5 := BX1.out.c5
    have x6 := BX1.out.c6
    have x7 := BX1.out.c7
    have x8 := BX1.out.c8
    have x9 := BX1.out.c9
    have x10 := BX1.out.c10
    have x11 := BX1.out.c11
    have x12 := BX1.out.c12
    have x13 := BX1.out.c13
    have x14 := BX1.out.c14
    have x15 := BX1.out.c15
    rw [HY.out] at x10
    go_wp2
    go_ret
    exact ⟨ret_bool HN.out.symm, HB1.out⟩
   ·have HN : Hid (recB r = (sbB r.b)) := by show _ = _; unfold recB; simp [hk, h0, h1, h2]
    clear hk
    have HY := hide h2
    clear h2
    generalize recB r = rb at *
    generalize (sbB r.b) = vv at *
    go_enter Tryz.func16, Tryz.ntmps16
    go_wp2_with fail
    refine (CI.out _).mono ?_
    rintro e w0 ⟨rfl, rfl⟩
    go_wp2_with fail
    refine (CT.out _ HB0.out).mono ?_
    rintro e w1 ⟨rfl, hb⟩
    have BX1 := hide (BX0.out.below hb)
    have HB1 := hide (HB0.out.trans (hb.mono HB0.out.size))
    clear hb BX0 HB0
    have x0 := BX1.out.c0
    have x1 := BX1.out.c1
    have x2 := BX1.out.c2
    have x3 := BX1.out.c3
    have x4 := BX1.out.c4
    have x5 := BX1.out.c5
    have x6 := BX1.out.c6
    have x7 := BX1.out.c7
    have x8 := BX1.out.c8
    have x9 := BX1.out.c9
    have x10 := BX1.out.c10
    have x11 := BX1.out.c11
    have x12 := BX1.out.c12
    have x13 := BX1.out.c13
    have x14 := BX1.out.c14
    have x15 := BX1.out.c15
    rw [HY.out] at x10
    go_wp2_with fail
    refine (CB.out _ HB1.out).mono ?_
    rintro e w3 ⟨rfl, hb⟩
    have HB2 := hide (HB1.out.trans (hb.mono HB1.out.size))
    clear hb
    go_wp2
    go_ret
    exact ⟨ret_bool HN.out.symm, HB2.out⟩

set_option maxRecDepth 100000 in
set_option maxHeartbeats 2000000 in
theorem srec0 (r : Rc) (h1 : ¬ (1 ≤ r.k ∧ r.k ≤ 4)) (w : World) :
  Calls Tryz.prog 16 #[.agg #[.int .i64 r.k, .int .i64 r.t.t.id, .int .i64 r.t.t.st, .int .i64 r.t.t.snap, .int .i64 r.t.t.cs, .slice r.t.ra r.t.t.rs.length r.t.rc, .slice r.t.wa r.t.t.ws.length r.t.wc, .bool r.t.t.out, .string r.t.t.nm, .string r.nm, .bool r.yes, .slice r.b.va r.b.vs.length r.b.vc, .slice r.b.pa r.b.ps.length r.b.pc, .slice r.b.qa r.b.qs.length r.b.qc, .int .i64 r.b.cs, .int .i64 r.b.nx]] w fun e w' => e = .returned (.bool (recB r)) ∧ Below w.heap.size w w' := by
 have HN : Hid (recB r = false) := by
  have k1 : r.k ≠ 1 := by omega
  have k2 : r.k ≠ 2 := by omega
  have k3 : r.k ≠ 3 := by omega
  have k4 : r.k ≠ 4 := by omega
  show _ = _; unfold recB; simp [k1, k2, k3, k4]
 have CI : Hid (∀ W, Calls Tryz.prog 47 #[.int .i64 r.k, .int .i64 1, .int .i64 4] W fun e w' => e = .returned (.bool false) ∧ w' = W) := fun W => in57 r.k 1 4 false (by simpa using h1) W
 clear h1
 generalize recB r = rb at *
 go_enter Tryz.func16, Tryz.ntmps16
 go_wp2_with fail
 refine (CI.out _).mono ?_
 rintro e w0 ⟨rfl, rfl⟩
 go_wp2
 go_ret
 exact ⟨ret_bool HN.out.symm, (belowRefl w).alloc (Nat.le_refl _) _⟩

theorem srec (r : Rc) (hf : RcFit r) (w : World) (hp : RcRows w r) :
  Calls Tryz.prog 16 #[.agg #[.int .i64 r.k, .int .i64 r.t.t.id, .int .i64 r.t.t.st, .int .i64 r.t.t.snap, .int .i64 r.t.t.cs, .slice r.t.ra r.t.t.rs.length r.t.rc, .slice r.t.wa r.t.t.ws.length r.t.wc, .bool r.t.t.out, .string r.t.t.nm, .string r.nm, .bool r.yes, .slice r.b.va r.b.vs.length r.b.vc, .slice r.b.pa r.b.ps.length r.b.pc, .slice r.b.qa r.b.qs.length r.b.qc, .int .i64 r.b.cs, .int .i64 r.b.nx]] w fun e w' => e = .returned (.bool (recB r)) ∧ Below w.heap.size w w' := by
 by_cases h1 : r.k = 1
 ·exact srec1 r h1 hf w hp
 by_cases h2 : r.k = 2
 ·exact srec2 r h2 hf w hp
 by_cases h3 : r.k = 3
 ·exact srec3 r h3 hf w hp
 by_cases h4 : r.k = 4
 ·exact srec4 r h4 hf w hp
 exact srec0 r (by omega) w

theorem rec_same {r c : Rc} (h : RcSame r c) : recB c = recB r := by
 have hb : noB c.b = noB r.b := by unfold noB; rw [h.b.cs, h.b.nx, h.b.vl, h.b.pl, h.b.ql]
 unfold recB
 rw [h.k, h.t, h.nm, h.yes, hb, sb_same h.b]

end Go.Proofs.YtpnnncfbodfnhaaGreatDoor

namespace Go.Proofs.YtpnnncfbodfnhaaGreatDoor
namespace WM

def varF : Nat → Nat → List UInt8
 | 0, n => [UInt8.ofNat n]
 | f + 1, n => if 127 < n then UInt8.ofNat (n % 128 + 128) :: varF f (n / 128) else [UInt8.ofNat n]

def varL (n : Nat) : List UInt8 := varF n n

theorem varF_eq : ∀ f n, n ≤ f → ∀ g, n ≤ g → varF f n = varF g n := by
 intro f
 induction f with
 | zero =>
  intro n hn g hg
  obtain rfl : n = 0 := by omega
  cases g <;> simp [varF]
 | succ f ih =>
  intro n hn g hg
  cases g with
  | zero =>
   obtain rfl : n = 0 := by omega
   simp [varF]
  | succ g =>
   simp only [varF]
   by_cases h : 127 < n
   ·rw [if_pos h, if_pos h, ih (n / 128) (by omega) g (by omega)]
   ·rw [if_neg h, if_neg h]

theorem varL_big (n : Nat) (h : 127 < n) : varL n = UInt8.ofNat (n % 128 + 128) :: varL (n / 128) := by
 unfold varL
 cases n with
 | zero => omega
 | succ m =>
  rw [varF, if_pos h, varF_eq m ((m + 1) / 128) (by omega) ((m + 1) / 128) (Nat.le_refl _)]

theorem varL_small (n : Nat) (h : n ≤ 127) : varL n = [UInt8.ofNat n] := by
 unfold varL
 cases n with
 | zero => rfl
 | succ m => rw [varF, if_neg (by omega)]

theorem varL_pos (n : Nat) : 1 ≤ (varL n).length := by
 by_cases h : 127 < n
 ·rw [varL_big n h]; simp
 ·rw [varL_small n (by omega)]; simp

theorem varL_len5 (n : Nat) (h : n < 34359738368) : (varL n).length ≤ 5 := by
 have step : ∀ k m, m < k * 128 → (∀ j, j < k → (varL j).length ≤ 4) → (varL m).length ≤ 5 := by
  intro k m hm hj
  by_cases h : 127 < m
  ·rw [varL_big m h]; simp; exact hj _ (by omega)
  ·rw [varL_small m (by omega)]; simp
 have s1 : ∀ m, m < 128 → (varL m).length ≤ 1 := fun m hm => by rw [varL_small m (by omega)]; simp
 have s2 : ∀ m, m < 16384 → (varL m).length ≤ 2 := fun m hm => by
  by_cases h : 127 < m
  ·rw [varL_big m h]; have := s1 (m / 128) (by omega); simp; omega
  ·have := s1 m (by omega); omega
 have s3 : ∀ m, m < 2097152 → (varL m).length ≤ 3 := fun m hm => by
  by_cases h : 127 < m
  ·rw [varL_big m h]; have := s2 (m / 128) (by omega); simp; omega
  ·have := s1 m (by omega); omega
 have s4 : ∀ m, m < 268435456 → (varL m).length ≤ 4 := fun m hm => by
  by_cases h : 127 < m
  ·rw [varL_big m h]; have := s3 (m / 128) (by omega); simp; omega
  ·have := s1 m (by omega); omega
 exact step 268435456 n h s4

def val : List UInt8 → Nat
 | [] => 0
 | b :: t => b.toNat % 128 + 128 * val t

theorem val_snoc (l : List UInt8) (b : UInt8) : val (l ++ [b]) = val l + b.toNat % 128 * 128 ^ l.length := by
 induction l with
 | nil => simp [val]
 | cons c t ih =>
  simp only [List.cons_append, val, ih, List.length_cons, Nat.pow_succ]
  rw [Nat.mul_add, Nat.mul_comm (128 ^ t.length) 128, ← Nat.mul_assoc, Nat.mul_comm 128 (b.toNat % 128), ← Nat.mul_assoc]
  omega

theorem ofNat_high (c : UInt8) (h : 128 ≤ c.toNat) : UInt8.ofNat (c.toNat % 128 + 128) = c := by
 apply UInt8.toNat_inj.1
 have := c.toNat_lt
 simp only [UInt8.toNat_ofNat']
 omega

theorem var_val : ∀ (pre : List UInt8) (b : UInt8), (∀ c ∈ pre, 128 ≤ c.toNat) → b.toNat < 128 →
  (varL (val (pre ++ [b])) = pre ++ [b] ↔ ¬ (b.toNat = 0 ∧ 0 < pre.length)) := by
 intro pre
 induction pre with
 | nil =>
  intro b _ hb
  have e : val ([] ++ [b]) = b.toNat := by simp [val]; omega
  rw [e, varL_small _ (by omega)]
  simp
 | cons c p ih =>
  intro b hc hb
  have hcc := hc c (by simp)
  have ih' := ih b (fun d hd => hc d (by simp [hd])) hb
  have hclt := c.toNat_lt
  have e : val ((c :: p) ++ [b]) = c.toNat % 128 + 128 * val (p ++ [b]) := by simp [val]
  rw [e]
  by_cases hm : val (p ++ [b]) = 0
  ·rw [hm, varL_small _ (by omega)]
   have hb0 : b.toNat = 0 := by
    rw [val_snoc] at hm
    have hp : 0 < 128 ^ p.length := Nat.pow_pos (by omega)
    have : b.toNat % 128 * 128 ^ p.length = 0 := by omega
    rcases Nat.mul_eq_zero.1 this with h | h
    ·omega
    ·omega
   constructor
   ·intro h
    have := congrArg List.length h
    simp at this
   ·intro h; exact absurd ⟨hb0, by simp⟩ h
  ·rw [varL_big _ (by omega)]
   have e1 : (c.toNat % 128 + 128 * val (p ++ [b])) % 128 = c.toNat % 128 := by omega
   have e2 : (c.toNat % 128 + 128 * val (p ++ [b])) / 128 = val (p ++ [b]) := by omega
   rw [e1, e2, ofNat_high c hcc]
   constructor
   ·intro h
    have h' : varL (val (p ++ [b])) = p ++ [b] := by
     have := List.cons.inj h
     exact this.2
    have n1 := ih'.1 h'
    intro ⟨hb0, _⟩
    by_cases hp : p = []
    ·subst hp
     simp [val, hb0] at hm
    ·exact n1 ⟨hb0, by cases p with | nil => exact absurd rfl hp | cons _ _ => simp⟩
   ·intro h
    have : varL (val (p ++ [b])) = p ++ [b] := by
     apply ih'.2
     intro ⟨h1, h2⟩
     exact h ⟨h1, by simp⟩
    rw [this]; rfl

def rvGo : Nat → Nat → Nat → List UInt8 → Option (Nat × Nat)
 | 0, _, _, _ => none
 | _ + 1, _, _, [] => none
 | f + 1, n, k, b :: t =>
  if b.toNat < 128 then
   (if 1000000000 < n + b.toNat % 128 * 128 ^ k ∨ (b.toNat = 0 ∧ 0 < k) then none else some (n + b.toNat % 128 * 128 ^ k, k + 1))
  else rvGo f (n + b.toNat % 128 * 128 ^ k) (k + 1) t

def rv (l : List UInt8) : Option (Nat × Nat) := rvGo 5 0 0 l

theorem rvGo_bd : ∀ f n k l r, rvGo f n k l = some r → r.1 ≤ 1000000000 ∧ k < r.2 ∧ r.2 ≤ k + l.length := by
 intro f
 induction f with
 | zero => intro n k l r h; simp [rvGo] at h
 | succ f ih =>
  intro n k l r h
  cases l with
  | nil => simp [rvGo] at h
  | cons b t =>
   simp only [rvGo] at h
   split at h
   ·split at h
    ·cases h
    ·cases h; simp only [List.length_cons]; omega
   ·have := ih _ _ _ _ h
    simp only [List.length_cons]
    omega

end WM
end Go.Proofs.YtpnnncfbodfnhaaGreatDoor

namespace Go.Proofs.YtpnnncfbodfnhaaGreatDoor
namespace VM
open KM
def isOf (k : ByteArray) (s : Int) (v : Vr) : Bool := decide (v.1 = k) && decide (v.2.2.2 ≤ s)
def more (a : Option Nd) (n : Nd) : Bool := match a with
 | none => true
 | some m => decide (m.2.2.2.2 < n.2.2.2.2)
def stp (k : ByteArray) (s : Int) (a : Option Nd) (n : Nd) : Option Nd := if (isOf k s n.2 && more a n) = true then some n else a
def lst (k : ByteArray) (s : Int) (ns : List Nd) : Option Nd := ns.foldl (stp k s) none
def lab (vs : List Vr) : Nat → List Nd
 | 0 => []
 | n + 1 => lab vs n ++ (match vs[n]? with
  | some v => [(n, v)]
  | none => [])
end VM
end Go.Proofs.YtpnnncfbodfnhaaGreatDoor
