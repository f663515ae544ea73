/- What impl.ReadRecord returns. -/
import Derived.Test.YtpnnncfbodfnhaaGreatDoorPr28
import Derived.Test.YtpnnncfbodfnhaaGreatDoorPr22
import Derived.Defers
import Derived.Recover
import Derived.Laws.Pointers
import Derived.Test.YtpnnncfbodfnhaaGreatDoorPr21
import Derived.Test.YtpnnncfbodfnhaaGreatDoorPr12
namespace Go.Proofs.YtpnnncfbodfnhaaGreatDoor
open Go.RowKit
open KM
open VM
attribute [local go_sem ↓] Go.wp_at_zero Go.wp_at_succ

set_option maxRecDepth 100000 in
set_option maxHeartbeats 2000000 in
theorem irr_no (t : ByteArray) (w : World) (CU : Hid (∀ W, Below w.heap.size w W → Calls Tryz.prog 35 #[.string t] W fun e w' => e = .returned (.tuple #[.string ⟨#[]⟩, .bool false]) ∧ Below W.heap.size W w')) :
  Calls Tryz.prog 11 #[.string t] w fun e w' => e = .returned (.tuple #[.agg #[.int .i64 0, .int .i64 0, .int .i64 0, .int .i64 0, .int .i64 0, .slice none 0 0, .slice none 0 0, .bool false, .string ⟨#[]⟩, .string ⟨#[]⟩, .bool false, .slice none 0 0, .slice none 0 0, .slice none 0 0, .int .i64 0, .int .i64 0], .bool false]) ∧ Below w.heap.size w w' := by
 have B0 : Hid (Bx (w.alloc (.cells #[.int .i64 0, .int .i64 0, .int .i64 0, .int .i64 0, .int .i64 0, .slice none 0 0, .slice none 0 0, .bool false, .string ⟨#[]⟩, .string ⟨#[]⟩, .bool false, .slice none 0 0, .slice none 0 0, .slice none 0 0, .int .i64 0, .int .i64 0] 44)) w.heap.size [.int .i64 0, .int .i64 0, .int .i64 0, .int .i64 0, .int .i64 0, .slice none 0 0, .slice none 0 0, .bool false, .string ⟨#[]⟩, .string ⟨#[]⟩, .bool false, .slice none 0 0, .slice none 0 0, .slice none 0 0, .int .i64 0, .int .i64 0]) := Bx.new w [.int .i64 0, .int .i64 0, .int .i64 0, .int .i64 0, .int .i64 0, .slice none 0 0, .slice none 0 0, .bool false, .string ⟨#[]⟩, .string ⟨#[]⟩, .bool false, .slice none 0 0, .slice none 0 0, .slice none 0 0, .int .i64 0, .int .i64 0] 44
 have HB0 : Hid (Below w.heap.size w (w.alloc (.cells #[.int .i64 0, .int .i64 0, .int .i64 0, .int .i64 0, .int .i64 0, .slice none 0 0, .slice none 0 0, .bool false, .string ⟨#[]⟩, .string ⟨#[]⟩, .bool false, .slice none 0 0, .slice none 0 0, .slice none 0 0, .int .i64 0, .int .i64 0] 44))) := (belowRefl w).alloc (Nat.le_refl _) _
 go_enter Tryz.func11, Tryz.ntmps11
 go_wp2_with fail
 generalize (w.alloc (.cells #[.int .i64 0, .int .i64 0, .int .i64 0, .int .i64 0, .int .i64 0, .slice none 0 0, .slice none 0 0, .bool false, .string ⟨#[]⟩, .string ⟨#[]⟩, .bool false, .slice none 0 0, .slice none 0 0, .slice none 0 0, .int .i64 0, .int .i64 0] 44)) = W0 at B0 HB0 ⊢
 refine (CU.out _ HB0.out).mono ?_
 rintro e w1 ⟨rfl, hb⟩
 have B1 := hide (B0.out.below hb)
 have HB1 := hide (HB0.out.trans (hb.mono HB0.out.size))
 clear hb B0 HB0
 have q0_ := B1.out.c0
 have fq0 := B1.out.fz 0
 have q1_ := B1.out.c1
 have fq1 := B1.out.fz 1
 have q2_ := B1.out.c2
 have fq2 := B1.out.fz 2
 have q3_ := B1.out.c3
 have fq3 := B1.out.fz 3
 have q4_ := B1.out.c4
 have fq4 := B1.out.fz 4
 have q5_ := B1.out.c5
 have fq5 := B1.out.fz 5
 have q6_ := B1.out.c6
 have fq6 := B1.out.fz 6
 have q7_ := B1.out.c7
 have fq7 := B1.out.fz 7
 have q8_ := B1.out.c8
 have fq8 := B1.out.fz 8
 have q9_ := B1.out.c9
 have fq9 := B1.out.fz 9
 have q10_ := B1.out.c10
 have fq10 := B1.out.fz 10
 have q11_ := B1.out.c11
 have fq11 := B1.out.fz 11
 have q12_ := B1.out.c12
 have fq12 := B1.out.fz 12
 have q13_ := B1.out.c13
 have fq13 := B1.out.fz 13
 have q14_ := B1.out.c14
 have fq14 := B1.out.fz 14
 have q15_ := B1.out.c15
 have fq15 := B1.out.fz 15
 go_wp2
 have BF : Hid (Bx ((((((((((((((((w1.setCell ⟨w.heap.size, 0, none⟩ (.int .i64 0)).setCell ⟨w.heap.size, 1, none⟩ (.int .i64 0)).setCell ⟨w.heap.size, 2, none⟩ (.int .i64 0)).setCell ⟨w.heap.size, 3, none⟩ (.int .i64 0)).setCell ⟨w.heap.size, 4, none⟩ (.int .i64 0)).setCell ⟨w.heap.size, 5, none⟩ (.slice none 0 0)).setCell ⟨w.heap.size, 6, none⟩ (.slice none 0 0)).setCell ⟨w.heap.size, 7, none⟩ (.bool false)).setCell ⟨w.heap.size, 8, none⟩ (.string ⟨#[]⟩)).setCell ⟨w.heap.size, 9, none⟩ (.string ⟨#[]⟩)).setCell ⟨w.heap.size, 10, none⟩ (.bool false)).setCell ⟨w.heap.size, 11, none⟩ (.slice none 0 0)).setCell ⟨w.heap.size, 12, none⟩ (.slice none 0 0)).setCell ⟨w.heap.size, 13, none⟩ (.slice none 0 0)).setCell ⟨w.heap.size, 14, none⟩ (.int .i64 0)).setCell ⟨w.heap.size, 15, none⟩ (.int .i64 0)) w.heap.size [.int .i64 0, .int .i64 0, .int .i64 0, .int .i64 0, .int .i64 0, .slice none 0 0, .slice none 0 0, .bool false, .string ⟨#[]⟩, .string ⟨#[]⟩, .bool false, .slice none 0 0, .slice none 0 0, .slice none 0 0, .int .i64 0, .int .i64 0]) := (((((((((((((((B1.out.set 0 _).set 1 _).set 2 _).set 3 _).set 4 _).set 5 _).set 6 _).set 7 _).set 8 _).set 9 _).set 10 _).set 11 _).set 12 _).set 13 _).set 14 _).set 15 _
 have HBF : Hid (Below w.heap.size w ((((((((((((((((w1.setCell ⟨w.heap.size, 0, none⟩ (.int .i64 0)).setCell ⟨w.heap.size, 1, none⟩ (.int .i64 0)).setCell ⟨w.heap.size, 2, none⟩ (.int .i64 0)).setCell ⟨w.heap.size, 3, none⟩ (.int .i64 0)).setCell ⟨w.heap.size, 4, none⟩ (.int .i64 0)).setCell ⟨w.heap.size, 5, none⟩ (.slice none 0 0)).setCell ⟨w.heap.size, 6, none⟩ (.slice none 0 0)).setCell ⟨w.heap.size, 7, none⟩ (.bool false)).setCell ⟨w.heap.size, 8, none⟩ (.string ⟨#[]⟩)).setCell ⟨w.heap.size, 9, none⟩ (.string ⟨#[]⟩)).setCell ⟨w.heap.size, 10, none⟩ (.bool false)).setCell ⟨w.heap.size, 11, none⟩ (.slice none 0 0)).setCell ⟨w.heap.size, 12, none⟩ (.slice none 0 0)).setCell ⟨w.heap.size, 13, none⟩ (.slice none 0 0)).setCell ⟨w.heap.size, 14, none⟩ (.int .i64 0)).setCell ⟨w.heap.size, 15, none⟩ (.int .i64 0))) := (((((((((((((((HB1.out.setCell (p := ⟨w.heap.size, 0, none⟩) (Nat.le_refl _) _).setCell (p := ⟨w.heap.size, 1, none⟩) (Nat.le_refl _) _).setCell (p := ⟨w.heap.size, 2, none⟩) (Nat.le_refl _) _).setCell (p := ⟨w.heap.size, 3, none⟩) (Nat.le_refl _) _).setCell (p := ⟨w.heap.size, 4, none⟩) (Nat.le_refl _) _).setCell (p := ⟨w.heap.size, 5, none⟩) (Nat.le_refl _) _).setCell (p := ⟨w.heap.size, 6, none⟩) (Nat.le_refl _) _).setCell (p := ⟨w.heap.size, 7, none⟩) (Nat.le_refl _) _).setCell (p := ⟨w.heap.size, 8, none⟩) (Nat.le_refl _) _).setCell (p := ⟨w.heap.size, 9, none⟩) (Nat.le_refl _) _).setCell (p := ⟨w.heap.size, 10, none⟩) (Nat.le_refl _) _).setCell (p := ⟨w.heap.size, 11, none⟩) (Nat.le_refl _) _).setCell (p := ⟨w.heap.size, 12, none⟩) (Nat.le_refl _) _).setCell (p := ⟨w.heap.size, 13, none⟩) (Nat.le_refl _) _).setCell (p := ⟨w.heap.size, 14, none⟩) (Nat.le_refl _) _).setCell (p := ⟨w.heap.size, 15, none⟩) (Nat.le_refl _) _
 clear q0_ fq0 q1_ fq1 q2_ fq2 q3_ fq3 q4_ fq4 q5_ fq5 q6_ fq6 q7_ fq7 q8_ fq8 q9_ fq9 q10_ fq10 q11_ fq11 q12_ fq12 q13_ fq13 q14_ fq14 q15_ fq15 B1 HB1
 generalize ((((((((((((((((w1.setCell ⟨w.heap.size, 0, none⟩ (.int .i64 0)).setCell ⟨w.heap.size, 1, none⟩ (.int .i64 0)).setCell ⟨w.heap.size, 2, none⟩ (.int .i64 0)).setCell ⟨w.heap.size, 3, none⟩ (.int .i64 0)).setCell ⟨w.heap.size, 4, none⟩ (.int .i64 0)).setCell ⟨w.heap.size, 5, none⟩ (.slice none 0 0)).setCell ⟨w.heap.size, 6, none⟩ (.slice none 0 0)).setCell ⟨w.heap.size, 7, none⟩ (.bool false)).setCell ⟨w.heap.size, 8, none⟩ (.string ⟨#[]⟩)).setCell ⟨w.heap.size, 9, none⟩ (.string ⟨#[]⟩)).setCell ⟨w.heap.size, 10, none⟩ (.bool false)).setCell ⟨w.heap.size, 11, none⟩ (.slice none 0 0)).setCell ⟨w.heap.size, 12, none⟩ (.slice none 0 0)).setCell ⟨w.heap.size, 13, none⟩ (.slice none 0 0)).setCell ⟨w.heap.size, 14, none⟩ (.int .i64 0)).setCell ⟨w.heap.size, 15, none⟩ (.int .i64 0)) = WF at BF HBF ⊢
 have q0_ := BF.out.c0
 have q1_ := BF.out.c1
 have q2_ := BF.out.c2
 have q3_ := BF.out.c3
 have q4_ := BF.out.c4
 have q5_ := BF.out.c5
 have q6_ := BF.out.c6
 have q7_ := BF.out.c7
 have q8_ := BF.out.c8
 have q9_ := BF.out.c9
 have q10_ := BF.out.c10
 have q11_ := BF.out.c11
 have q12_ := BF.out.c12
 have q13_ := BF.out.c13
 have q14_ := BF.out.c14
 have q15_ := BF.out.c15
 refine bodyPost_ret (v := .tuple #[.agg #[.int .i64 0, .int .i64 0, .int .i64 0, .int .i64 0, .int .i64 0, .slice none 0 0, .slice none 0 0, .bool false, .string ⟨#[]⟩, .string ⟨#[]⟩, .bool false, .slice none 0 0, .slice none 0 0, .slice none 0 0, .int .i64 0, .int .i64 0], .bool false]) (by simp [results, Tryz.results11, go_sem, q0_, q1_, q2_, q3_, q4_, q5_, q6_, q7_, q8_, q9_, q10_, q11_, q12_, q13_, q14_, q15_]) rfl ⟨rfl, HBF.out⟩

set_option maxRecDepth 100000 in
set_option maxHeartbeats 4000000 in
theorem irr (t x : ByteArray) (hs : x.size ≤ 1048576) (s0 : Rc) (b0 : Bool) (ha : ansR x = (s0, b0)) (w : World) (CW : Hid (∀ (x : ByteArray) (rb ob g : Nat) (p : Int), x.size ≤ 1048576 → ob ≠ g → ∀ (w : World), Bx w rb [.pointer (some ⟨g, 0, none⟩)] → Bx w ob [.int .i64 0, .int .i64 0, .int .i64 0, .int .i64 0, .int .i64 0, .slice none 0 0, .slice none 0 0, .bool false, .string ⟨#[]⟩, .string ⟨#[]⟩, .bool false, .slice none 0 0, .slice none 0 0, .slice none 0 0, .int .i64 0, .int .i64 0] → Rd w g x p → Calls Tryz.prog 36 #[.func (.func 37) #[] #[.pointer (some ⟨rb, 0, none⟩), .pointer (some ⟨ob, 0, none⟩)]] w fun e w' => Kn [g, ob] w w' ∧ ((e = .returned (.bool false) ∧ rRc x p = none) ∨ ∃ s q c, rRc x p = some (s, q) ∧ q ≤ x.size ∧ e = .returned (.bool true) ∧ RcSame s c ∧ RcLie w' w.heap.size w'.heap.size c ∧ Rd w' g x (q : Int) ∧ Bx w' ob [.int .i64 c.k, .int .i64 c.t.t.id, .int .i64 c.t.t.st, .int .i64 c.t.t.snap, .int .i64 c.t.t.cs, .slice c.t.ra c.t.t.rs.length c.t.rc, .slice c.t.wa c.t.t.ws.length c.t.wc, .bool c.t.t.out, .string c.t.t.nm, .string c.nm, .bool c.yes, .slice c.b.va c.b.vs.length c.b.vc, .slice c.b.pa c.b.ps.length c.b.pc, .slice c.b.qa c.b.qs.length c.b.qc, .int .i64 c.b.cs, .int .i64 c.b.nx]))) (CU : Hid (∀ W, Below w.heap.size w W → Calls Tryz.prog 35 #[.string t] W fun e w' => e = .returned (.tuple #[.string x, .bool true]) ∧ Below W.heap.size W w')) :
  Calls Tryz.prog 11 #[.string t] w fun e w' => ∃ c, e = .returned (.tuple #[.agg #[.int .i64 c.k, .int .i64 c.t.t.id, .int .i64 c.t.t.st, .int .i64 c.t.t.snap, .int .i64 c.t.t.cs, .slice c.t.ra c.t.t.rs.length c.t.rc, .slice c.t.wa c.t.t.ws.length c.t.wc, .bool c.t.t.out, .string c.t.t.nm, .string c.nm, .bool c.yes, .slice c.b.va c.b.vs.length c.b.vc, .slice c.b.pa c.b.ps.length c.b.pc, .slice c.b.qa c.b.qs.length c.b.qc, .int .i64 c.b.cs, .int .i64 c.b.nx], .bool b0]) ∧ RcSame s0 c ∧ RcLie w' w.heap.size w'.heap.size c ∧ Below w.heap.size w w' := by
 have hmf : ∀ (fn : Fn) (first cap : Array Value) (w : World), (Instr.makeFunc fn first cap).run Tryz.prog w = .ok (.func fn first cap) w := fun _ _ _ _ => rfl
 have B0 : Hid (Bx (w.alloc (.cells #[.int .i64 0, .int .i64 0, .int .i64 0, .int .i64 0, .int .i64 0, .slice none 0 0, .slice none 0 0, .bool false, .string ⟨#[]⟩, .string ⟨#[]⟩, .bool false, .slice none 0 0, .slice none 0 0, .slice none 0 0, .int .i64 0, .int .i64 0] 44)) w.heap.size [.int .i64 0, .int .i64 0, .int .i64 0, .int .i64 0, .int .i64 0, .slice none 0 0, .slice none 0 0, .bool false, .string ⟨#[]⟩, .string ⟨#[]⟩, .bool false, .slice none 0 0, .slice none 0 0, .slice none 0 0, .int .i64 0, .int .i64 0]) := Bx.new w [.int .i64 0, .int .i64 0, .int .i64 0, .int .i64 0, .int .i64 0, .slice none 0 0, .slice none 0 0, .bool false, .string ⟨#[]⟩, .string ⟨#[]⟩, .bool false, .slice none 0 0, .slice none 0 0, .slice none 0 0, .int .i64 0, .int .i64 0] 44
 have HB0 : Hid (Below w.heap.size w (w.alloc (.cells #[.int .i64 0, .int .i64 0, .int .i64 0, .int .i64 0, .int .i64 0, .slice none 0 0, .slice none 0 0, .bool false, .string ⟨#[]⟩, .string ⟨#[]⟩, .bool false, .slice none 0 0, .slice none 0 0, .slice none 0 0, .int .i64 0, .int .i64 0] 44))) := (belowRefl w).alloc (Nat.le_refl _) _
 go_enter Tryz.func11, Tryz.ntmps11
 go_wp2_with fail
 generalize (w.alloc (.cells #[.int .i64 0, .int .i64 0, .int .i64 0, .int .i64 0, .int .i64 0, .slice none 0 0, .slice none 0 0, .bool false, .string ⟨#[]⟩, .string ⟨#[]⟩, .bool false, .slice none 0 0, .slice none 0 0, .slice none 0 0, .int .i64 0, .int .i64 0] 44)) = W0 at B0 HB0 ⊢
 refine (CU.out _ HB0.out).mono ?_
 rintro e w1 ⟨rfl, hb⟩
 have B1 := hide (B0.out.below hb)
 have HB1 := hide (HB0.out.trans (hb.mono HB0.out.size))
 have hlt : w.heap.size < w1.heap.size := B1.out.lt
 clear hb B0 HB0
 have B0 : Hid (Bx (((w1.alloc (.cells #[.string x, .int .i64 0] 89)).alloc (.cells #[.pointer (some ⟨w1.heap.size, 0, none⟩)] 87)).alloc (.cells #[.int .i64 0, .int .i64 0, .int .i64 0, .int .i64 0, .int .i64 0, .slice none 0 0, .slice none 0 0, .bool false, .string ⟨#[]⟩, .string ⟨#[]⟩, .bool false, .slice none 0 0, .slice none 0 0, .slice none 0 0, .int .i64 0, .int .i64 0] 44)) w.heap.size [.int .i64 0, .int .i64 0, .int .i64 0, .int .i64 0, .int .i64 0, .slice none 0 0, .slice none 0 0, .bool false, .string ⟨#[]⟩, .string ⟨#[]⟩, .bool false, .slice none 0 0, .slice none 0 0, .slice none 0 0, .int .i64 0, .int .i64 0]) := ((B1.out.alloc _).alloc _).alloc _
 have BG : Hid (Rd (((w1.alloc (.cells #[.string x, .int .i64 0] 89)).alloc (.cells #[.pointer (some ⟨w1.heap.size, 0, none⟩)] 87)).alloc (.cells #[.int .i64 0, .int .i64 0, .int .i64 0, .int .i64 0, .int .i64 0, .slice none 0 0, .slice none 0 0, .bool false, .string ⟨#[]⟩, .string ⟨#[]⟩, .bool false, .slice none 0 0, .slice none 0 0, .slice none 0 0, .int .i64 0, .int .i64 0] 44)) w1.heap.size x 0) := by
  have h := Bx.new w1 [.string x, .int .i64 0] 89
  exact (h.alloc _).alloc _
 have BR : Hid (Bx (((w1.alloc (.cells #[.string x, .int .i64 0] 89)).alloc (.cells #[.pointer (some ⟨w1.heap.size, 0, none⟩)] 87)).alloc (.cells #[.int .i64 0, .int .i64 0, .int .i64 0, .int .i64 0, .int .i64 0, .slice none 0 0, .slice none 0 0, .bool false, .string ⟨#[]⟩, .string ⟨#[]⟩, .bool false, .slice none 0 0, .slice none 0 0, .slice none 0 0, .int .i64 0, .int .i64 0] 44)) (w1.heap.size + 1) [.pointer (some ⟨w1.heap.size, 0, none⟩)]) := by
  have h := Bx.new (w1.alloc (.cells #[.string x, .int .i64 0] 89)) [.pointer (some ⟨w1.heap.size, 0, none⟩)] 87
  rw [World.size_alloc] at h
  exact h.alloc _
 have BO : Hid (Bx (((w1.alloc (.cells #[.string x, .int .i64 0] 89)).alloc (.cells #[.pointer (some ⟨w1.heap.size, 0, none⟩)] 87)).alloc (.cells #[.int .i64 0, .int .i64 0, .int .i64 0, .int .i64 0, .int .i64 0, .slice none 0 0, .slice none 0 0, .bool false, .string ⟨#[]⟩, .string ⟨#[]⟩, .bool false, .slice none 0 0, .slice none 0 0, .slice none 0 0, .int .i64 0, .int .i64 0] 44)) (w1.heap.size + 1 + 1) [.int .i64 0, .int .i64 0, .int .i64 0, .int .i64 0, .int .i64 0, .slice none 0 0, .slice none 0 0, .bool false, .string ⟨#[]⟩, .string ⟨#[]⟩, .bool false, .slice none 0 0, .slice none 0 0, .slice none 0 0, .int .i64 0, .int .i64 0]) := by
  have h := Bx.new ((w1.alloc (.cells #[.string x, .int .i64 0] 89)).alloc (.cells #[.pointer (some ⟨w1.heap.size, 0, none⟩)] 87)) [.int .i64 0, .int .i64 0, .int .i64 0, .int .i64 0, .int .i64 0, .slice none 0 0, .slice none 0 0, .bool false, .string ⟨#[]⟩, .string ⟨#[]⟩, .bool false, .slice none 0 0, .slice none 0 0, .slice none 0 0, .int .i64 0, .int .i64 0] 44
  rw [World.size_alloc, World.size_alloc] at h
  exact h
 have HB : Hid (Below w.heap.size w (((w1.alloc (.cells #[.string x, .int .i64 0] 89)).alloc (.cells #[.pointer (some ⟨w1.heap.size, 0, none⟩)] 87)).alloc (.cells #[.int .i64 0, .int .i64 0, .int .i64 0, .int .i64 0, .int .i64 0, .slice none 0 0, .slice none 0 0, .bool false, .string ⟨#[]⟩, .string ⟨#[]⟩, .bool false, .slice none 0 0, .slice none 0 0, .slice none 0 0, .int .i64 0, .int .i64 0] 44))) := (((HB1.out).alloc HB1.out.size _).alloc (by rw [World.size_alloc]; omega) _).alloc (by rw [World.size_alloc, World.size_alloc]; omega) _
 have HS : Hid ((((w1.alloc (.cells #[.string x, .int .i64 0] 89)).alloc (.cells #[.pointer (some ⟨w1.heap.size, 0, none⟩)] 87)).alloc (.cells #[.int .i64 0, .int .i64 0, .int .i64 0, .int .i64 0, .int .i64 0, .slice none 0 0, .slice none 0 0, .bool false, .string ⟨#[]⟩, .string ⟨#[]⟩, .bool false, .slice none 0 0, .slice none 0 0, .slice none 0 0, .int .i64 0, .int .i64 0] 44)).heap.size = w1.heap.size + 1 + 1 + 1) := by show _ = _; rw [World.size_alloc, World.size_alloc, World.size_alloc]
 clear B1 HB1
 go_wp2_with fail
 generalize (((w1.alloc (.cells #[.string x, .int .i64 0] 89)).alloc (.cells #[.pointer (some ⟨w1.heap.size, 0, none⟩)] 87)).alloc (.cells #[.int .i64 0, .int .i64 0, .int .i64 0, .int .i64 0, .int .i64 0, .slice none 0 0, .slice none 0 0, .bool false, .string ⟨#[]⟩, .string ⟨#[]⟩, .bool false, .slice none 0 0, .slice none 0 0, .slice none 0 0, .int .i64 0, .int .i64 0] 44)) = W at B0 BG BR BO HB HS ⊢
 refine (CW.out x (w1.heap.size + 1) (w1.heap.size + 1 + 1) w1.heap.size 0 hs (by omega) _ BR.out BO.out BG.out).mono ?_
 rintro e w2 ⟨hk, ⟨rfl, hx⟩ | ⟨s, q, c, hx, hq, rfl, hsm, hl, hd, ho⟩⟩
 ·have B2 := hide (B0.out.kn hk (by simp <;> omega))
  have HB2 : Hid (Below w.heap.size w w2) := HB.out.trans (hk.below (by have := HS.out; omega) (by simp <;> omega))
  have HA : Hid (ansR x = (zR, false)) := by show _ = _; simp only [ansR, hx]
  clear hx hk B0 BG BR BO HB
  rw [HA.out] at ha
  cases ha
  have q0_ := B2.out.c0
  have fq0 := B2.out.fz 0
  have q1_ := B2.out.c1
  have fq1 := B2.out.fz 1
  have q2_ := B2.out.c2
  have fq2 := B2.out.fz 2
  have q3_ := B2.out.c3
  have fq3 := B2.out.fz 3
  have q4_ := B2.out.c4
  have fq4 := B2.out.fz 4
  have q5_ := B2.out.c5
  have fq5 := B2.out.fz 5
  have q6_ := B2.out.c6
  have fq6 := B2.out.fz 6
  have q7_ := B2.out.c7
  have fq7 := B2.out.fz 7
  have q8_ := B2.out.c8
  have fq8 := B2.out.fz 8
  have q9_ := B2.out.c9
  have fq9 := B2.out.fz 9
  have q10_ := B2.out.c10
  have fq10 := B2.out.fz 10
  have q11_ := B2.out.c11
  have fq11 := B2.out.fz 11
  have q12_ := B2.out.c12
  have fq12 := B2.out.fz 12
  have q13_ := B2.out.c13
  have fq13 := B2.out.fz 13
  have q14_ := B2.out.c14
  have fq14 := B2.out.fz 14
  have q15_ := B2.out.c15
  have fq15 := B2.out.fz 15
  go_wp2
  have BF : Hid (Bx ((((((((((((((((w2.setCell ⟨w.heap.size, 0, none⟩ (.int .i64 0)).setCell ⟨w.heap.size, 1, none⟩ (.int .i64 0)).setCell ⟨w.heap.size, 2, none⟩ (.int .i64 0)).setCell ⟨w.heap.size, 3, none⟩ (.int .i64 0)).setCell ⟨w.heap.size, 4, none⟩ (.int .i64 0)).setCell ⟨w.heap.size, 5, none⟩ (.slice none 0 0)).setCell ⟨w.heap.size, 6, none⟩ (.slice none 0 0)).setCell ⟨w.heap.size, 7, none⟩ (.bool false)).setCell ⟨w.heap.size, 8, none⟩ (.string ⟨#[]⟩)).setCell ⟨w.heap.size, 9, none⟩ (.string ⟨#[]⟩)).setCell ⟨w.heap.size, 10, none⟩ (.bool false)).setCell ⟨w.heap.size, 11, none⟩ (.slice none 0 0)).setCell ⟨w.heap.size, 12, none⟩ (.slice none 0 0)).setCell ⟨w.heap.size, 13, none⟩ (.slice none 0 0)).setCell ⟨w.heap.size, 14, none⟩ (.int .i64 0)).setCell ⟨w.heap.size, 15, none⟩ (.int .i64 0)) w.heap.size [.int .i64 0, .int .i64 0, .int .i64 0, .int .i64 0, .int .i64 0, .slice none 0 0, .slice none 0 0, .bool false, .string ⟨#[]⟩, .string ⟨#[]⟩, .bool false, .slice none 0 0, .slice none 0 0, .slice none 0 0, .int .i64 0, .int .i64 0]) := (((((((((((((((B2.out.set 0 _).set 1 _).set 2 _).set 3 _).set 4 _).set 5 _).set 6 _).set 7 _).set 8 _).set 9 _).set 10 _).set 11 _).set 12 _).set 13 _).set 14 _).set 15 _
  have HBF : Hid (Below w.heap.size w ((((((((((((((((w2.setCell ⟨w.heap.size, 0, none⟩ (.int .i64 0)).setCell ⟨w.heap.size, 1, none⟩ (.int .i64 0)).setCell ⟨w.heap.size, 2, none⟩ (.int .i64 0)).setCell ⟨w.heap.size, 3, none⟩ (.int .i64 0)).setCell ⟨w.heap.size, 4, none⟩ (.int .i64 0)).setCell ⟨w.heap.size, 5, none⟩ (.slice none 0 0)).setCell ⟨w.heap.size, 6, none⟩ (.slice none 0 0)).setCell ⟨w.heap.size, 7, none⟩ (.bool false)).setCell ⟨w.heap.size, 8, none⟩ (.string ⟨#[]⟩)).setCell ⟨w.heap.size, 9, none⟩ (.string ⟨#[]⟩)).setCell ⟨w.heap.size, 10, none⟩ (.bool false)).setCell ⟨w.heap.size, 11, none⟩ (.slice none 0 0)).setCell ⟨w.heap.size, 12, none⟩ (.slice none 0 0)).setCell ⟨w.heap.size, 13, none⟩ (.slice none 0 0)).setCell ⟨w.heap.size, 14, none⟩ (.int .i64 0)).setCell ⟨w.heap.size, 15, none⟩ (.int .i64 0))) := (((((((((((((((HB2.out.setCell (p := ⟨w.heap.size, 0, none⟩) (Nat.le_refl _) _).setCell (p := ⟨w.heap.size, 1, none⟩) (Nat.le_refl _) _).setCell (p := ⟨w.heap.size, 2, none⟩) (Nat.le_refl _) _).setCell (p := ⟨w.heap.size, 3, none⟩) (Nat.le_refl _) _).setCell (p := ⟨w.heap.size, 4, none⟩) (Nat.le_refl _) _).setCell (p := ⟨w.heap.size, 5, none⟩) (Nat.le_refl _) _).setCell (p := ⟨w.heap.size, 6, none⟩) (Nat.le_refl _) _).setCell (p := ⟨w.heap.size, 7, none⟩) (Nat.le_refl _) _).setCell (p := ⟨w.heap.size, 8, none⟩) (Nat.le_refl _) _).setCell (p := ⟨w.heap.size, 9, none⟩) (Nat.le_refl _) _).setCell (p := ⟨w.heap.size, 10, none⟩) (Nat.le_refl _) _).setCell (p := ⟨w.heap.size, 11, none⟩) (Nat.le_refl _) _).setCell (p := ⟨w.heap.size, 12, none⟩) (Nat.le_refl _) _).setCell (p := ⟨w.heap.size, 13, none⟩) (Nat.le_refl _) _).setCell (p := ⟨w.heap.size, 14, none⟩) (Nat.le_refl _) _).setCell (p := ⟨w.heap.size, 15, none⟩) (Nat.le_refl _) _
  clear q0_ fq0 q1_ fq1 q2_ fq2 q3_ fq3 q4_ fq4 q5_ fq5 q6_ fq6 q7_ fq7 q8_ fq8 q9_ fq9 q10_ fq10 q11_ fq11 q12_ fq12 q13_ fq13 q14_ fq14 q15_ fq15 B2 HB2
  generalize ((((((((((((((((w2.setCell ⟨w.heap.size, 0, none⟩ (.int .i64 0)).setCell ⟨w.heap.size, 1, none⟩ (.int .i64 0)).setCell ⟨w.heap.size, 2, none⟩ (.int .i64 0)).setCell ⟨w.heap.size, 3, none⟩ (.int .i64 0)).setCell ⟨w.heap.size, 4, none⟩ (.int .i64 0)).setCell ⟨w.heap.size, 5, none⟩ (.slice none 0 0)).setCell ⟨w.heap.size, 6, none⟩ (.slice none 0 0)).setCell ⟨w.heap.size, 7, none⟩ (.bool false)).setCell ⟨w.heap.size, 8, none⟩ (.string ⟨#[]⟩)).setCell ⟨w.heap.size, 9, none⟩ (.string ⟨#[]⟩)).setCell ⟨w.heap.size, 10, none⟩ (.bool false)).setCell ⟨w.heap.size, 11, none⟩ (.slice none 0 0)).setCell ⟨w.heap.size, 12, none⟩ (.slice none 0 0)).setCell ⟨w.heap.size, 13, none⟩ (.slice none 0 0)).setCell ⟨w.heap.size, 14, none⟩ (.int .i64 0)).setCell ⟨w.heap.size, 15, none⟩ (.int .i64 0)) = WF at *
  have q0_ := BF.out.c0
  have q1_ := BF.out.c1
  have q2_ := BF.out.c2
  have q3_ := BF.out.c3
  have q4_ := BF.out.c4
  have q5_ := BF.out.c5
  have q6_ := BF.out.c6
  have q7_ := BF.out.c7
  have q8_ := BF.out.c8
  have q9_ := BF.out.c9
  have q10_ := BF.out.c10
  have q11_ := BF.out.c11
  have q12_ := BF.out.c12
  have q13_ := BF.out.c13
  have q14_ := BF.out.c14
  have q15_ := BF.out.c15
  refine bodyPost_ret (v := .tuple #[.agg #[.int .i64 0, .int .i64 0, .int .i64 0, .int .i64 0, .int .i64 0, .slice none 0 0, .slice none 0 0, .bool false, .string ⟨#[]⟩, .string ⟨#[]⟩, .bool false, .slice none 0 0, .slice none 0 0, .slice none 0 0, .int .i64 0, .int .i64 0], .bool false]) (by simp [results, Tryz.results11, go_sem, q0_, q1_, q2_, q3_, q4_, q5_, q6_, q7_, q8_, q9_, q10_, q11_, q12_, q13_, q14_, q15_]) rfl ⟨zR, rfl, zRsame, zRlie _ _ _ HBF.out.size, HBF.out⟩
 ·have B2 := hide (B0.out.kn hk (by simp <;> omega))
  have R2 := hide (BR.out.kn hk (by simp <;> omega))
  have HB2 : Hid (Below w.heap.size w w2) := HB.out.trans (hk.below (by have := HS.out; omega) (by simp <;> omega))
  have G2 := hide hd
  have O2 := hide ho
  have HL := hide hl
  have HM := hide hsm
  have HX := hide hx
  clear hx hk B0 BG BR BO HB hl hd ho hsm
  have k0 := R2.out.c0
  have k1 := G2.out.c1
  by_cases hlt2 : q < x.size
  ·have HA : Hid (ansR x = (zR, false)) := by show _ = _; simp only [ansR, HX.out]; rw [if_pos hlt2]
   have hde : decide ((q : Int) < (x.size : Int)) = true := by simpa using hlt2
   rw [HA.out] at ha
   cases ha
   have q0_ := B2.out.c0
   have fq0 := B2.out.fz 0
   have q1_ := B2.out.c1
   have fq1 := B2.out.fz 1
   have q2_ := B2.out.c2
   have fq2 := B2.out.fz 2
   have q3_ := B2.out.c3
   have fq3 := B2.out.fz 3
   have q4_ := B2.out.c4
   have fq4 := B2.out.fz 4
   have q5_ := B2.out.c5
   have fq5 := B2.out.fz 5
   have q6_ := B2.out.c6
   have fq6 := B2.out.fz 6
   have q7_ := B2.out.c7
   have fq7 := B2.out.fz 7
   have q8_ := B2.out.c8
   have fq8 := B2.out.fz 8
   have q9_ := B2.out.c9
   have fq9 := B2.out.fz 9
   have q10_ := B2.out.c10
   have fq10 := B2.out.fz 10
   have q11_ := B2.out.c11
   have fq11 := B2.out.fz 11
   have q12_ := B2.out.c12
   have fq12 := B2.out.fz 12
   have q13_ := B2.out.c13
   have fq13 := B2.out.fz 13
   have q14_ := B2.out.c14
   have fq14 := B2.out.fz 14
   have q15_ := B2.out.c15
   have fq15 := B2.out.fz 15
   go_wp2
   have BF : Hid (Bx ((((((((((((((((w2.setCell ⟨w.heap.size, 0, none⟩ (.int .i64 0)).setCell ⟨w.heap.size, 1, none⟩ (.int .i64 0)).setCell ⟨w.heap.size, 2, none⟩ (.int .i64 0)).setCell ⟨w.heap.size, 3, none⟩ (.int .i64 0)).setCell ⟨w.heap.size, 4, none⟩ (.int .i64 0)).setCell ⟨w.heap.size, 5, none⟩ (.slice none 0 0)).setCell ⟨w.heap.size, 6, none⟩ (.slice none 0 0)).setCell ⟨w.heap.size, 7, none⟩ (.bool false)).setCell ⟨w.heap.size, 8, none⟩ (.string ⟨#[]⟩)).setCell ⟨w.heap.size, 9, none⟩ (.string ⟨#[]⟩)).setCell ⟨w.heap.size, 10, none⟩ (.bool false)).setCell ⟨w.heap.size, 11, none⟩ (.slice none 0 0)).setCell ⟨w.heap.size, 12, none⟩ (.slice none 0 0)).setCell ⟨w.heap.size, 13, none⟩ (.slice none 0 0)).setCell ⟨w.heap.size, 14, none⟩ (.int .i64 0)).setCell ⟨w.heap.size, 15, none⟩ (.int .i64 0)) w.heap.size [.int .i64 0, .int .i64 0, .int .i64 0, .int .i64 0, .int .i64 0, .slice none 0 0, .slice none 0 0, .bool false, .string ⟨#[]⟩, .string ⟨#[]⟩, .bool false, .slice none 0 0, .slice none 0 0, .slice none 0 0, .int .i64 0, .int .i64 0]) := (((((((((((((((B2.out.set 0 _).set 1 _).set 2 _).set 3 _).set 4 _).set 5 _).set 6 _).set 7 _).set 8 _).set 9 _).set 10 _).set 11 _).set 12 _).set 13 _).set 14 _).set 15 _
   have HBF : Hid (Below w.heap.size w ((((((((((((((((w2.setCell ⟨w.heap.size, 0, none⟩ (.int .i64 0)).setCell ⟨w.heap.size, 1, none⟩ (.int .i64 0)).setCell ⟨w.heap.size, 2, none⟩ (.int .i64 0)).setCell ⟨w.heap.size, 3, none⟩ (.int .i64 0)).setCell ⟨w.heap.size, 4, none⟩ (.int .i64 0)).setCell ⟨w.heap.size, 5, none⟩ (.slice none 0 0)).setCell ⟨w.heap.size, 6, none⟩ (.slice none 0 0)).setCell ⟨w.heap.size, 7, none⟩ (.bool false)).setCell ⟨w.heap.size, 8, none⟩ (.string ⟨#[]⟩)).setCell ⟨w.heap.size, 9, none⟩ (.string ⟨#[]⟩)).setCell ⟨w.heap.size, 10, none⟩ (.bool false)).setCell ⟨w.heap.size, 11, none⟩ (.slice none 0 0)).setCell ⟨w.heap.size, 12, none⟩ (.slice none 0 0)).setCell ⟨w.heap.size, 13, none⟩ (.slice none 0 0)).setCell ⟨w.heap.size, 14, none⟩ (.int .i64 0)).setCell ⟨w.heap.size, 15, none⟩ (.int .i64 0))) := (((((((((((((((HB2.out.setCell (p := ⟨w.heap.size, 0, none⟩) (Nat.le_refl _) _).setCell (p := ⟨w.heap.size, 1, none⟩) (Nat.le_refl _) _).setCell (p := ⟨w.heap.size, 2, none⟩) (Nat.le_refl _) _).setCell (p := ⟨w.heap.size, 3, none⟩) (Nat.le_refl _) _).setCell (p := ⟨w.heap.size, 4, none⟩) (Nat.le_refl _) _).setCell (p := ⟨w.heap.size, 5, none⟩) (Nat.le_refl _) _).setCell (p := ⟨w.heap.size, 6, none⟩) (Nat.le_refl _) _).setCell (p := ⟨w.heap.size, 7, none⟩) (Nat.le_refl _) _).setCell (p := ⟨w.heap.size, 8, none⟩) (Nat.le_refl _) _).setCell (p := ⟨w.heap.size, 9, none⟩) (Nat.le_refl _) _).setCell (p := ⟨w.heap.size, 10, none⟩) (Nat.le_refl _) _).setCell (p := ⟨w.heap.size, 11, none⟩) (Nat.le_refl _) _).setCell (p := ⟨w.heap.size, 12, none⟩) (Nat.le_refl _) _).setCell (p := ⟨w.heap.size, 13, none⟩) (Nat.le_refl _) _).setCell (p := ⟨w.heap.size, 14, none⟩) (Nat.le_refl _) _).setCell (p := ⟨w.heap.size, 15, none⟩) (Nat.le_refl _) _
   clear k0 k1 R2 G2 O2 HL
   clear q0_ fq0 q1_ fq1 q2_ fq2 q3_ fq3 q4_ fq4 q5_ fq5 q6_ fq6 q7_ fq7 q8_ fq8 q9_ fq9 q10_ fq10 q11_ fq11 q12_ fq12 q13_ fq13 q14_ fq14 q15_ fq15 B2 HB2
   generalize ((((((((((((((((w2.setCell ⟨w.heap.size, 0, none⟩ (.int .i64 0)).setCell ⟨w.heap.size, 1, none⟩ (.int .i64 0)).setCell ⟨w.heap.size, 2, none⟩ (.int .i64 0)).setCell ⟨w.heap.size, 3, none⟩ (.int .i64 0)).setCell ⟨w.heap.size, 4, none⟩ (.int .i64 0)).setCell ⟨w.heap.size, 5, none⟩ (.slice none 0 0)).setCell ⟨w.heap.size, 6, none⟩ (.slice none 0 0)).setCell ⟨w.heap.size, 7, none⟩ (.bool false)).setCell ⟨w.heap.size, 8, none⟩ (.string ⟨#[]⟩)).setCell ⟨w.heap.size, 9, none⟩ (.string ⟨#[]⟩)).setCell ⟨w.heap.size, 10, none⟩ (.bool false)).setCell ⟨w.heap.size, 11, none⟩ (.slice none 0 0)).setCell ⟨w.heap.size, 12, none⟩ (.slice none 0 0)).setCell ⟨w.heap.size, 13, none⟩ (.slice none 0 0)).setCell ⟨w.heap.size, 14, none⟩ (.int .i64 0)).setCell ⟨w.heap.size, 15, none⟩ (.int .i64 0)) = WF at *
   have q0_ := BF.out.c0
   have q1_ := BF.out.c1
   have q2_ := BF.out.c2
   have q3_ := BF.out.c3
   have q4_ := BF.out.c4
   have q5_ := BF.out.c5
   have q6_ := BF.out.c6
   have q7_ := BF.out.c7
   have q8_ := BF.out.c8
   have q9_ := BF.out.c9
   have q10_ := BF.out.c10
   have q11_ := BF.out.c11
   have q12_ := BF.out.c12
   have q13_ := BF.out.c13
   have q14_ := BF.out.c14
   have q15_ := BF.out.c15
   refine bodyPost_ret (v := .tuple #[.agg #[.int .i64 0, .int .i64 0, .int .i64 0, .int .i64 0, .int .i64 0, .slice none 0 0, .slice none 0 0, .bool false, .string ⟨#[]⟩, .string ⟨#[]⟩, .bool false, .slice none 0 0, .slice none 0 0, .slice none 0 0, .int .i64 0, .int .i64 0], .bool false]) (by simp [results, Tryz.results11, go_sem, q0_, q1_, q2_, q3_, q4_, q5_, q6_, q7_, q8_, q9_, q10_, q11_, q12_, q13_, q14_, q15_]) rfl ⟨zR, rfl, zRsame, zRlie _ _ _ HBF.out.size, HBF.out⟩
  ·have HA : Hid (ansR x = (s, true)) := by show _ = _; simp only [ansR, HX.out]; rw [if_neg hlt2]
   have hde : decide ((q : Int) < (x.size : Int)) = false := by simpa using hlt2
   rw [HA.out] at ha
   cases ha
   go_upto_region 8 with fail
   clear k0 k1 hde
   refine wp_region_lit ?_
   refine wpLoad16 rfl 44 _ rfl _ Tryz.underlying44 rfl (by kernel_rfl) (by kernel_rfl) O2.out ?_
   simp only [Act.put, List.setIfInBounds_toArray, List.set_cons_zero, List.set_cons_succ]
   refine wpStore16 (v0 := .int .i64 c.k) (v1 := .int .i64 c.t.t.id) (v2 := .int .i64 c.t.t.st) (v3 := .int .i64 c.t.t.snap) (v4 := .int .i64 c.t.t.cs) (v5 := .slice c.t.ra c.t.t.rs.length c.t.rc) (v6 := .slice c.t.wa c.t.t.ws.length c.t.wc) (v7 := .bool c.t.t.out) (v8 := .string c.t.t.nm) (v9 := .string c.nm) (v10 := .bool c.yes) (v11 := .slice c.b.va c.b.vs.length c.b.vc) (v12 := .slice c.b.pa c.b.ps.length c.b.pc) (v13 := .slice c.b.qa c.b.qs.length c.b.qc) (v14 := .int .i64 c.b.cs) (v15 := .int .i64 c.b.nx) rfl 44 _ _ rfl (by kernel_rfl) (by kernel_rfl) (by kernel_rfl) B2.out (List.forall_mem_cons.2 ⟨rfl, List.forall_mem_cons.2 ⟨rfl, List.forall_mem_cons.2 ⟨rfl, List.forall_mem_cons.2 ⟨rfl, List.forall_mem_cons.2 ⟨rfl, List.forall_mem_cons.2 ⟨rfl, List.forall_mem_cons.2 ⟨rfl, List.forall_mem_cons.2 ⟨rfl, List.forall_mem_cons.2 ⟨rfl, List.forall_mem_cons.2 ⟨rfl, List.forall_mem_cons.2 ⟨rfl, List.forall_mem_cons.2 ⟨rfl, List.forall_mem_cons.2 ⟨rfl, List.forall_mem_cons.2 ⟨rfl, List.forall_mem_cons.2 ⟨rfl, List.forall_mem_cons.2 ⟨rfl, fun _ h => by cases h⟩⟩⟩⟩⟩⟩⟩⟩⟩⟩⟩⟩⟩⟩⟩⟩) ?_
   have BF : Hid (Bx ((((((((((((((((w2.setCell ⟨w.heap.size, 0, none⟩ (.int .i64 c.k)).setCell ⟨w.heap.size, 1, none⟩ (.int .i64 c.t.t.id)).setCell ⟨w.heap.size, 2, none⟩ (.int .i64 c.t.t.st)).setCell ⟨w.heap.size, 3, none⟩ (.int .i64 c.t.t.snap)).setCell ⟨w.heap.size, 4, none⟩ (.int .i64 c.t.t.cs)).setCell ⟨w.heap.size, 5, none⟩ (.slice c.t.ra c.t.t.rs.length c.t.rc)).setCell ⟨w.heap.size, 6, none⟩ (.slice c.t.wa c.t.t.ws.length c.t.wc)).setCell ⟨w.heap.size, 7, none⟩ (.bool c.t.t.out)).setCell ⟨w.heap.size, 8, none⟩ (.string c.t.t.nm)).setCell ⟨w.heap.size, 9, none⟩ (.string c.nm)).setCell ⟨w.heap.size, 10, none⟩ (.bool c.yes)).setCell ⟨w.heap.size, 11, none⟩ (.slice c.b.va c.b.vs.length c.b.vc)).setCell ⟨w.heap.size, 12, none⟩ (.slice c.b.pa c.b.ps.length c.b.pc)).setCell ⟨w.heap.size, 13, none⟩ (.slice c.b.qa c.b.qs.length c.b.qc)).setCell ⟨w.heap.size, 14, none⟩ (.int .i64 c.b.cs)).setCell ⟨w.heap.size, 15, none⟩ (.int .i64 c.b.nx)) w.heap.size [.int .i64 c.k, .int .i64 c.t.t.id, .int .i64 c.t.t.st, .int .i64 c.t.t.snap, .int .i64 c.t.t.cs, .slice c.t.ra c.t.t.rs.length c.t.rc, .slice c.t.wa c.t.t.ws.length c.t.wc, .bool c.t.t.out, .string c.t.t.nm, .string c.nm, .bool c.yes, .slice c.b.va c.b.vs.length c.b.vc, .slice c.b.pa c.b.ps.length c.b.pc, .slice c.b.qa c.b.qs.length c.b.qc, .int .i64 c.b.cs, .int .i64 c.b.nx]) := (((((((((((((((B2.out.set 0 _).set 1 _).set 2 _).set 3 _).set 4 _).set 5 _).set 6 _).set 7 _).set 8 _).set 9 _).set 10 _).set 11 _).set 12 _).set 13 _).set 14 _).set 15 _
   have HBF : Hid (Below w.heap.size w ((((((((((((((((w2.setCell ⟨w.heap.size, 0, none⟩ (.int .i64 c.k)).setCell ⟨w.heap.size, 1, none⟩ (.int .i64 c.t.t.id)).setCell ⟨w.heap.size, 2, none⟩ (.int .i64 c.t.t.st)).setCell ⟨w.heap.size, 3, none⟩ (.int .i64 c.t.t.snap)).setCell ⟨w.heap.size, 4, none⟩ (.int .i64 c.t.t.cs)).setCell ⟨w.heap.size, 5, none⟩ (.slice c.t.ra c.t.t.rs.length c.t.rc)).setCell ⟨w.heap.size, 6, none⟩ (.slice c.t.wa c.t.t.ws.length c.t.wc)).setCell ⟨w.heap.size, 7, none⟩ (.bool c.t.t.out)).setCell ⟨w.heap.size, 8, none⟩ (.string c.t.t.nm)).setCell ⟨w.heap.size, 9, none⟩ (.string c.nm)).setCell ⟨w.heap.size, 10, none⟩ (.bool c.yes)).setCell ⟨w.heap.size, 11, none⟩ (.slice c.b.va c.b.vs.length c.b.vc)).setCell ⟨w.heap.size, 12, none⟩ (.slice c.b.pa c.b.ps.length c.b.pc)).setCell ⟨w.heap.size, 13, none⟩ (.slice c.b.qa c.b.qs.length c.b.qc)).setCell ⟨w.heap.size, 14, none⟩ (.int .i64 c.b.cs)).setCell ⟨w.heap.size, 15, none⟩ (.int .i64 c.b.nx))) := (((((((((((((((HB2.out.setCell (p := ⟨w.heap.size, 0, none⟩) (Nat.le_refl _) _).setCell (p := ⟨w.heap.size, 1, none⟩) (Nat.le_refl _) _).setCell (p := ⟨w.heap.size, 2, none⟩) (Nat.le_refl _) _).setCell (p := ⟨w.heap.size, 3, none⟩) (Nat.le_refl _) _).setCell (p := ⟨w.heap.size, 4, none⟩) (Nat.le_refl _) _).setCell (p := ⟨w.heap.size, 5, none⟩) (Nat.le_refl _) _).setCell (p := ⟨w.heap.size, 6, none⟩) (Nat.le_refl _) _).setCell (p := ⟨w.heap.size, 7, none⟩) (Nat.le_refl _) _).setCell (p := ⟨w.heap.size, 8, none⟩) (Nat.le_refl _) _).setCell (p := ⟨w.heap.size, 9, none⟩) (Nat.le_refl _) _).setCell (p := ⟨w.heap.size, 10, none⟩) (Nat.le_refl _) _).setCell (p := ⟨w.heap.size, 11, none⟩) (Nat.le_refl _) _).setCell (p := ⟨w.heap.size, 12, none⟩) (Nat.le_refl _) _).setCell (p := ⟨w.heap.size, 13, none⟩) (Nat.le_refl _) _).setCell (p := ⟨w.heap.size, 14, none⟩) (Nat.le_refl _) _).setCell (p := ⟨w.heap.size, 15, none⟩) (Nat.le_refl _) _
   have LF : Hid (RcLie ((((((((((((((((w2.setCell ⟨w.heap.size, 0, none⟩ (.int .i64 c.k)).setCell ⟨w.heap.size, 1, none⟩ (.int .i64 c.t.t.id)).setCell ⟨w.heap.size, 2, none⟩ (.int .i64 c.t.t.st)).setCell ⟨w.heap.size, 3, none⟩ (.int .i64 c.t.t.snap)).setCell ⟨w.heap.size, 4, none⟩ (.int .i64 c.t.t.cs)).setCell ⟨w.heap.size, 5, none⟩ (.slice c.t.ra c.t.t.rs.length c.t.rc)).setCell ⟨w.heap.size, 6, none⟩ (.slice c.t.wa c.t.t.ws.length c.t.wc)).setCell ⟨w.heap.size, 7, none⟩ (.bool c.t.t.out)).setCell ⟨w.heap.size, 8, none⟩ (.string c.t.t.nm)).setCell ⟨w.heap.size, 9, none⟩ (.string c.nm)).setCell ⟨w.heap.size, 10, none⟩ (.bool c.yes)).setCell ⟨w.heap.size, 11, none⟩ (.slice c.b.va c.b.vs.length c.b.vc)).setCell ⟨w.heap.size, 12, none⟩ (.slice c.b.pa c.b.ps.length c.b.pc)).setCell ⟨w.heap.size, 13, none⟩ (.slice c.b.qa c.b.qs.length c.b.qc)).setCell ⟨w.heap.size, 14, none⟩ (.int .i64 c.b.cs)).setCell ⟨w.heap.size, 15, none⟩ (.int .i64 c.b.nx)) w.heap.size ((((((((((((((((w2.setCell ⟨w.heap.size, 0, none⟩ (.int .i64 c.k)).setCell ⟨w.heap.size, 1, none⟩ (.int .i64 c.t.t.id)).setCell ⟨w.heap.size, 2, none⟩ (.int .i64 c.t.t.st)).setCell ⟨w.heap.size, 3, none⟩ (.int .i64 c.t.t.snap)).setCell ⟨w.heap.size, 4, none⟩ (.int .i64 c.t.t.cs)).setCell ⟨w.heap.size, 5, none⟩ (.slice c.t.ra c.t.t.rs.length c.t.rc)).setCell ⟨w.heap.size, 6, none⟩ (.slice c.t.wa c.t.t.ws.length c.t.wc)).setCell ⟨w.heap.size, 7, none⟩ (.bool c.t.t.out)).setCell ⟨w.heap.size, 8, none⟩ (.string c.t.t.nm)).setCell ⟨w.heap.size, 9, none⟩ (.string c.nm)).setCell ⟨w.heap.size, 10, none⟩ (.bool c.yes)).setCell ⟨w.heap.size, 11, none⟩ (.slice c.b.va c.b.vs.length c.b.vc)).setCell ⟨w.heap.size, 12, none⟩ (.slice c.b.pa c.b.ps.length c.b.pc)).setCell ⟨w.heap.size, 13, none⟩ (.slice c.b.qa c.b.qs.length c.b.qc)).setCell ⟨w.heap.size, 14, none⟩ (.int .i64 c.b.cs)).setCell ⟨w.heap.size, 15, none⟩ (.int .i64 c.b.nx)).heap.size c) := ((((((((((((((((HL.out.set (a := ⟨w.heap.size, 0, none⟩) (by have := HS.out; show w.heap.size < _; omega) _).set (a := ⟨w.heap.size, 1, none⟩) (by have := HS.out; show w.heap.size < _; omega) _).set (a := ⟨w.heap.size, 2, none⟩) (by have := HS.out; show w.heap.size < _; omega) _).set (a := ⟨w.heap.size, 3, none⟩) (by have := HS.out; show w.heap.size < _; omega) _).set (a := ⟨w.heap.size, 4, none⟩) (by have := HS.out; show w.heap.size < _; omega) _).set (a := ⟨w.heap.size, 5, none⟩) (by have := HS.out; show w.heap.size < _; omega) _).set (a := ⟨w.heap.size, 6, none⟩) (by have := HS.out; show w.heap.size < _; omega) _).set (a := ⟨w.heap.size, 7, none⟩) (by have := HS.out; show w.heap.size < _; omega) _).set (a := ⟨w.heap.size, 8, none⟩) (by have := HS.out; show w.heap.size < _; omega) _).set (a := ⟨w.heap.size, 9, none⟩) (by have := HS.out; show w.heap.size < _; omega) _).set (a := ⟨w.heap.size, 10, none⟩) (by have := HS.out; show w.heap.size < _; omega) _).set (a := ⟨w.heap.size, 11, none⟩) (by have := HS.out; show w.heap.size < _; omega) _).set (a := ⟨w.heap.size, 12, none⟩) (by have := HS.out; show w.heap.size < _; omega) _).set (a := ⟨w.heap.size, 13, none⟩) (by have := HS.out; show w.heap.size < _; omega) _).set (a := ⟨w.heap.size, 14, none⟩) (by have := HS.out; show w.heap.size < _; omega) _).set (a := ⟨w.heap.size, 15, none⟩) (by have := HS.out; show w.heap.size < _; omega) _).mono (by have := HS.out; omega) (by simp [World.setCell])
   clear R2 G2 O2 HL B2 HB2
   generalize ((((((((((((((((w2.setCell ⟨w.heap.size, 0, none⟩ (.int .i64 c.k)).setCell ⟨w.heap.size, 1, none⟩ (.int .i64 c.t.t.id)).setCell ⟨w.heap.size, 2, none⟩ (.int .i64 c.t.t.st)).setCell ⟨w.heap.size, 3, none⟩ (.int .i64 c.t.t.snap)).setCell ⟨w.heap.size, 4, none⟩ (.int .i64 c.t.t.cs)).setCell ⟨w.heap.size, 5, none⟩ (.slice c.t.ra c.t.t.rs.length c.t.rc)).setCell ⟨w.heap.size, 6, none⟩ (.slice c.t.wa c.t.t.ws.length c.t.wc)).setCell ⟨w.heap.size, 7, none⟩ (.bool c.t.t.out)).setCell ⟨w.heap.size, 8, none⟩ (.string c.t.t.nm)).setCell ⟨w.heap.size, 9, none⟩ (.string c.nm)).setCell ⟨w.heap.size, 10, none⟩ (.bool c.yes)).setCell ⟨w.heap.size, 11, none⟩ (.slice c.b.va c.b.vs.length c.b.vc)).setCell ⟨w.heap.size, 12, none⟩ (.slice c.b.pa c.b.ps.length c.b.pc)).setCell ⟨w.heap.size, 13, none⟩ (.slice c.b.qa c.b.qs.length c.b.qc)).setCell ⟨w.heap.size, 14, none⟩ (.int .i64 c.b.cs)).setCell ⟨w.heap.size, 15, none⟩ (.int .i64 c.b.nx)) = WF at BF HBF LF ⊢
   go_wp2
   have q0_ := BF.out.c0
   have q1_ := BF.out.c1
   have q2_ := BF.out.c2
   have q3_ := BF.out.c3
   have q4_ := BF.out.c4
   have q5_ := BF.out.c5
   have q6_ := BF.out.c6
   have q7_ := BF.out.c7
   have q8_ := BF.out.c8
   have q9_ := BF.out.c9
   have q10_ := BF.out.c10
   have q11_ := BF.out.c11
   have q12_ := BF.out.c12
   have q13_ := BF.out.c13
   have q14_ := BF.out.c14
   have q15_ := BF.out.c15
   refine bodyPost_ret (v := .tuple #[.agg #[.int .i64 c.k, .int .i64 c.t.t.id, .int .i64 c.t.t.st, .int .i64 c.t.t.snap, .int .i64 c.t.t.cs, .slice c.t.ra c.t.t.rs.length c.t.rc, .slice c.t.wa c.t.t.ws.length c.t.wc, .bool c.t.t.out, .string c.t.t.nm, .string c.nm, .bool c.yes, .slice c.b.va c.b.vs.length c.b.vc, .slice c.b.pa c.b.ps.length c.b.pc, .slice c.b.qa c.b.qs.length c.b.qc, .int .i64 c.b.cs, .int .i64 c.b.nx], .bool true]) (by simp [results, Tryz.results11, go_sem, q0_, q1_, q2_, q3_, q4_, q5_, q6_, q7_, q8_, q9_, q10_, q11_, q12_, q13_, q14_, q15_]) rfl ⟨c, rfl, HM.out, LF.out, HBF.out⟩

end Go.Proofs.YtpnnncfbodfnhaaGreatDoor

namespace Go.Proofs.YtpnnncfbodfnhaaGreatDoor
open Go.RowKit
open KM
open VM
attribute [local go_sem ↓] Go.wp_at_zero Go.wp_at_succ

structure BLow (B : Nat) (b : Bb) : Prop where
 v : ∀ b' off, b.va = some ⟨b', off, none⟩ → 0 < b.vs.length → b' < B
 p : ∀ b' off, b.pa = some ⟨b', off, none⟩ → 0 < b.ps.length → b' < B
 pe : ∀ x ∈ b.ps, TLow B x
 q : ∀ b' off, b.qa = some ⟨b', off, none⟩ → 0 < b.qs.length → b' < B
 qe : ∀ x ∈ b.qs, TLow B x
theorem TRows.low {w w' : World} {B : Nat} {a : Option Addr} {xs : List Ta} (h : TRows w a xs) (hb : Below B w w') (h1 : ∀ b' off, a = some ⟨b', off, none⟩ → 0 < xs.length → b' < B) (h2 : ∀ x ∈ xs, TLow B x) : TRows w' a xs := ⟨grow_low h.row hb h1, fun x hx => (h.each x hx).low hb (h2 x hx)⟩
theorem BRows.low {w w' : World} {B : Nat} {b : Bb} (h : BRows w b) (hb : Below B w w') (hl : BLow B b) : BRows w' b := ⟨grow_low h.v hb hl.v, h.p.low hb hl.p hl.pe, h.q.low hb hl.q hl.qe⟩

def btxV (b : Bb) : Value := if sbB b = true then .tuple #[.string ⟨(bsL b).toArray⟩, .bool true] else .tuple #[.string ⟨#[]⟩, .bool false]
theorem ts_same {xs ys : List Ta} (h : txs ys = txs xs) : tsL ys = tsL xs := by
 have e : ∀ zs : List Ta, tsL zs = (txs zs).flatMap txL := fun zs => by unfold tsL txs; rw [List.flatMap_map]
 rw [e, e, h]
end Go.Proofs.YtpnnncfbodfnhaaGreatDoor
