/- What impl.ReadRecord returns. -/
import Derived.Test.YtpnnncfbodfnhaaGreatDoorPr29
import Derived.Test.YtpnnncfbodfnhaaGreatDoorPr23
import Derived.Defers
import Derived.Recover
import Derived.Laws.Pointers
import Derived.Test.YtpnnncfbodfnhaaGreatDoorPr22
import Derived.Test.YtpnnncfbodfnhaaGreatDoorPr13
namespace Go.Proofs.YtpnnncfbodfnhaaGreatDoor
open Go.RowKit
open KM
open VM
attribute [local go_sem ↓] Go.wp_at_zero Go.wp_at_succ

set_option maxRecDepth 100000 in
set_option maxHeartbeats 2000000 in
theorem irr_no (t : ByteArray) (w : World) (CU : Hid (∀ W, Below w.heap.size w W → Calls Tryz.prog 35 #[.string t] W fun e w' => e = .returned (.tuple #[.string ⟨#[]⟩, .bool false]) ∧ Below W.heap.size W w')) :
  Calls Tryz.prog 11 #[.string t] w fun e w' => e = .returned (.tuple #[.agg #[.int .i64 0, .int .i64 0, .int .i64 0, .int .i64 0, .int .i64 0, .slice none 0 0, .slice none 0 0, .bool false, .string ⟨#[]⟩, .string ⟨#[]⟩, .bool false, .slice none 0 0, .slice none 0 0, .slice none 0 0, .int .i64 0, .int .i64 0], .bool false]) ∧ Below w.heap.size w w' := by
 have B0 : Hid (Bx (w.alloc (.cells #[.int .i64 0, .int .i64 0, .int .i64 0, .int .i64 0, .int .i64 0, .slice none 0 0, .slice none 0 0, .bool false, .string ⟨#[]⟩, .string ⟨#[]⟩, .bool false, .slice none 0 0, .slice none 0 0, .slice none 0 0, .int .i64 0, .int .i64 0] 44)) w.heap.size [.int .i64 0, .int .i64 0, .int .i64 0, .int .i64 0, .int .i64 0, .slice none 0 0, .slice none 0 0, .bool false, .string ⟨#[]⟩, .string ⟨#[]⟩, .bool false, .slice none 0 0, .slice none 0 0, .slice none 0 0, .int .i64 0, .int .i64 0]) := Bx.new w [.int .i64 0, .int .i64 0, .int .i64 0, .int .i64 0, .int .i64 0, .slice none 0 0, .slice none 0 0, .bool false, .string ⟨#[]⟩, .string ⟨#[]⟩, .bool false, .slice none 0 0, .slice none 0 0, .slice none 0 0, .int .i64 0, .int .i64 0] 44
 have HB0 : Hid (Below w.heap.size w (w.alloc (.cells #[.int .i64 0, .int .i64 0, .int .i64 0, .int .i64 0, .int .i64 0, .slice none 0 0, .slice none 0 0, .bool false, .string ⟨#[]⟩, .string ⟨#[]⟩, .bool false, .slice none 0 0, .slice none 0 0, .slice none 0 0, .int .i64 0, .int .i64 0] 44))) := (belowRefl w).alloc (Nat.le_refl _) _
 go_enter Tryz.func11, Tryz.ntmps11
 go_wp2_with fail
 generalize (w.alloc (.cells #[.int .i64 0, .int .i64 0, .int .i64 0, .int .i64 0, .int .i64 0, .slice none 0 0, .slice none 0 0, .bool false, .string ⟨#[]⟩, .string ⟨#[]⟩, .bool false, .slice none 0 0, .slice none 0 0, .slice none 0 0, .int .i64 0, .int .i64 0] 44)) = W0 at B0 HB0 ⊢
 refine (CU.out _ HB0.out).mono ?_
 rintro e w1 ⟨rfl, hb⟩
 have B1 := hide (B0.out.below hb)
 have HB1 : Hid (Below w.heap.size w w1) := HB0.out.trans (hb.mono HB0.out.size)
 clear hb B0 HB0
 go_upto_region 3 with fail
 refine wp_region_lit ?_
 refine wpList_plain rfl fun K hK => ?_
 go_simp
 refine hK _ _ ?_
 clear hK K
 refine wpStore16K (.int .i64 0) (.int .i64 0) (.int .i64 0) (.int .i64 0) (.int .i64 0) (.slice none 0 0) (.slice none 0 0) (.bool false) (.string ⟨#[]⟩) (.string ⟨#[]⟩) (.bool false) (.slice none 0 0) (.slice none 0 0) (.slice none 0 0) (.int .i64 0) (.int .i64 0) rfl 44 _ _ rfl (by kernel_rfl) (by kernel_rfl) (by kernel_rfl) B1.out (List.forall_mem_cons.2 ⟨rfl, List.forall_mem_cons.2 ⟨rfl, List.forall_mem_cons.2 ⟨rfl, List.forall_mem_cons.2 ⟨rfl, List.forall_mem_cons.2 ⟨rfl, List.forall_mem_cons.2 ⟨rfl, List.forall_mem_cons.2 ⟨rfl, List.forall_mem_cons.2 ⟨rfl, List.forall_mem_cons.2 ⟨rfl, List.forall_mem_cons.2 ⟨rfl, List.forall_mem_cons.2 ⟨rfl, List.forall_mem_cons.2 ⟨rfl, List.forall_mem_cons.2 ⟨rfl, List.forall_mem_cons.2 ⟨rfl, List.forall_mem_cons.2 ⟨rfl, List.forall_mem_cons.2 ⟨rfl, fun _ h => by cases h⟩⟩⟩⟩⟩⟩⟩⟩⟩⟩⟩⟩⟩⟩⟩⟩) (fun WF bf zf => ?_)
 have BF := hide bf
 have HBF : Hid (Below w.heap.size w WF) := HB1.out.trans (zf.below (Nat.le_refl _) HB1.out.size)
 clear B1 HB1 bf zf
 go_wp2
 have q0_ := BF.out.c0
 have q1_ := BF.out.c1
 have q2_ := BF.out.c2
 have q3_ := BF.out.c3
 have q4_ := BF.out.c4
 have q5_ := BF.out.c5
 have q6_ := BF.out.c6
 have q7_ := BF.out.c7
 have q8_ := BF.out.c8
 have q9_ := BF.out.c9
 have q10_ := BF.out.c10
 have q11_ := BF.out.c11
 have q12_ := BF.out.c12
 have q13_ := BF.out.c13
 have q14_ := BF.out.c14
 have q15_ := BF.out.c15
 refine bodyPost_ret (v := .tuple #[.agg #[.int .i64 0, .int .i64 0, .int .i64 0, .int .i64 0, .int .i64 0, .slice none 0 0, .slice none 0 0, .bool false, .string ⟨#[]⟩, .string ⟨#[]⟩, .bool false, .slice none 0 0, .slice none 0 0, .slice none 0 0, .int .i64 0, .int .i64 0], .bool false]) (by simp [results, Tryz.results11, go_sem, q0_, q1_, q2_, q3_, q4_, q5_, q6_, q7_, q8_, q9_, q10_, q11_, q12_, q13_, q14_, q15_]) rfl ⟨rfl, HBF.out⟩

set_option maxRecDepth 100000 in
set_option maxHeartbeats 4000000 in
theorem irr (t x : ByteArray) (hs : x.size ≤ 1048576) (s0 : Rc) (b0 : Bool) (ha : ansR x = (s0, b0)) (w : World) (CW : Hid (∀ (x : ByteArray) (rb ob g : Nat) (p : Int), x.size ≤ 1048576 → ob ≠ g → ∀ (w : World), Bx w rb [.pointer (some ⟨g, 0, none⟩)] → Bx w ob [.int .i64 0, .int .i64 0, .int .i64 0, .int .i64 0, .int .i64 0, .slice none 0 0, .slice none 0 0, .bool false, .string ⟨#[]⟩, .string ⟨#[]⟩, .bool false, .slice none 0 0, .slice none 0 0, .slice none 0 0, .int .i64 0, .int .i64 0] → Rd w g x p → Calls Tryz.prog 36 #[.func (.func 37) #[] #[.pointer (some ⟨rb, 0, none⟩), .pointer (some ⟨ob, 0, none⟩)]] w fun e w' => Kn [g, ob] w w' ∧ ((e = .returned (.bool false) ∧ rRc x p = none) ∨ ∃ s q c, rRc x p = some (s, q) ∧ q ≤ x.size ∧ e = .returned (.bool true) ∧ RcSame s c ∧ RcLie w' w.heap.size w'.heap.size c ∧ Rd w' g x (q : Int) ∧ Bx w' ob [.int .i64 c.k, .int .i64 c.t.t.id, .int .i64 c.t.t.st, .int .i64 c.t.t.snap, .int .i64 c.t.t.cs, .slice c.t.ra c.t.t.rs.length c.t.rc, .slice c.t.wa c.t.t.ws.length c.t.wc, .bool c.t.t.out, .string c.t.t.nm, .string c.nm, .bool c.yes, .slice c.b.va c.b.vs.length c.b.vc, .slice c.b.pa c.b.ps.length c.b.pc, .slice c.b.qa c.b.qs.length c.b.qc, .int .i64 c.b.cs, .int .i64 c.b.nx]))) (CU : Hid (∀ W, Below w.heap.size w W → Calls Tryz.prog 35 #[.string t] W fun e w' => e = .returned (.tuple #[.string x, .bool true]) ∧ Below W.heap.size W w')) :
  Calls Tryz.prog 11 #[.string t] w fun e w' => ∃ c, e = .returned (.tuple #[.agg #[.int .i64 c.k, .int .i64 c.t.t.id, .int .i64 c.t.t.st, .int .i64 c.t.t.snap, .int .i64 c.t.t.cs, .slice c.t.ra c.t.t.rs.length c.t.rc, .slice c.t.wa c.t.t.ws.length c.t.wc, .bool c.t.t.out, .string c.t.t.nm, .string c.nm, .bool c.yes, .slice c.b.va c.b.vs.length c.b.vc, .slice c.b.pa c.b.ps.length c.b.pc, .slice c.b.qa c.b.qs.length c.b.qc, .int .i64 c.b.cs, .int .i64 c.b.nx], .bool b0]) ∧ RcSame s0 c ∧ RcLie w' w.heap.size w'.heap.size c ∧ Below w.heap.size w w' := by
 have hmf : ∀ (fn : Fn) (first cap : Array Value) (w : World), (Instr.makeFunc fn first cap).run Tryz.prog w = .ok (.func fn first cap) w := fun _ _ _ _ => rfl
 have B0 : Hid (Bx (w.alloc (.cells #[.int .i64 0, .int .i64 0, .int .i64 0, .int .i64 0, .int .i64 0, .slice none 0 0, .slice none 0 0, .bool false, .string ⟨#[]⟩, .string ⟨#[]⟩, .bool false, .slice none 0 0, .slice none 0 0, .slice none 0 0, .int .i64 0, .int .i64 0] 44)) w.heap.size [.int .i64 0, .int .i64 0, .int .i64 0, .int .i64 0, .int .i64 0, .slice none 0 0, .slice none 0 0, .bool false, .string ⟨#[]⟩, .string ⟨#[]⟩, .bool false, .slice none 0 0, .slice none 0 0, .slice none 0 0, .int .i64 0, .int .i64 0]) := Bx.new w [.int .i64 0, .int .i64 0, .int .i64 0, .int .i64 0, .int .i64 0, .slice none 0 0, .slice none 0 0, .bool false, .string ⟨#[]⟩, .string ⟨#[]⟩, .bool false, .slice none 0 0, .slice none 0 0, .slice none 0 0, .int .i64 0, .int .i64 0] 44
 have HB0 : Hid (Below w.heap.size w (w.alloc (.cells #[.int .i64 0, .int .i64 0, .int .i64 0, .int .i64 0, .int .i64 0, .slice none 0 0, .slice none 0 0, .bool false, .string ⟨#[]⟩, .string ⟨#[]⟩, .bool false, .slice none 0 0, .slice none 0 0, .slice none 0 0, .int .i64 0, .int .i64 0] 44))) := (belowRefl w).alloc (Nat.le_refl _) _
 go_enter Tryz.func11, Tryz.ntmps11
 go_wp2_with fail
 generalize (w.alloc (.cells #[.int .i64 0, .int .i64 0, .int .i64 0, .int .i64 0, .int .i64 0, .slice none 0 0, .slice none 0 0, .bool false, .string ⟨#[]⟩, .string ⟨#[]⟩, .bool false, .slice none 0 0, .slice none 0 0, .slice none 0 0, .int .i64 0, .int .i64 0] 44)) = W0 at B0 HB0 ⊢
 refine (CU.out _ HB0.out).mono ?_
 rintro e w1 ⟨rfl, hb⟩
 have B1 := hide (B0.out.below hb)
 have HB1 : Hid (Below w.heap.size w w1) := HB0.out.trans (hb.mono HB0.out.size)
 have hlt : w.heap.size < w1.heap.size := B1.out.lt
 clear hb B0 HB0
 have B0 : Hid (Bx (((w1.alloc (.cells #[.string x, .int .i64 0] 89)).alloc (.cells #[.pointer (some ⟨w1.heap.size, 0, none⟩)] 87)).alloc (.cells #[.int .i64 0, .int .i64 0, .int .i64 0, .int .i64 0, .int .i64 0, .slice none 0 0, .slice none 0 0, .bool false, .string ⟨#[]⟩, .string ⟨#[]⟩, .bool false, .slice none 0 0, .slice none 0 0, .slice none 0 0, .int .i64 0, .int .i64 0] 44)) w.heap.size [.int .i64 0, .int .i64 0, .int .i64 0, .int .i64 0, .int .i64 0, .slice none 0 0, .slice none 0 0, .bool false, .string ⟨#[]⟩, .string ⟨#[]⟩, .bool false, .slice none 0 0, .slice none 0 0, .slice none 0 0, .int .i64 0, .int .i64 0]) := ((B1.out.alloc _).alloc _).alloc _
 have BG : Hid (Rd (((w1.alloc (.cells #[.string x, .int .i64 0] 89)).alloc (.cells #[.pointer (some ⟨w1.heap.size, 0, none⟩)] 87)).alloc (.cells #[.int .i64 0, .int .i64 0, .int .i64 0, .int .i64 0, .int .i64 0, .slice none 0 0, .slice none 0 0, .bool false, .string ⟨#[]⟩, .string ⟨#[]⟩, .bool false, .slice none 0 0, .slice none 0 0, .slice none 0 0, .int .i64 0, .int .i64 0] 44)) w1.heap.size x 0) := by
  have h := Bx.new w1 [.string x, .int .i64 0] 89
  exact (h.alloc _).alloc _
 have BR : Hid (Bx (((w1.alloc (.cells #[.string x, .int .i64 0] 89)).alloc (.cells #[.pointer (some ⟨w1.heap.size, 0, none⟩)] 87)).alloc (.cells #[.int .i64 0, .int .i64 0, .int .i64 0, .int .i64 0, .int .i64 0, .slice none 0 0, .slice none 0 0, .bool false, .string ⟨#[]⟩, .string ⟨#[]⟩, .bool false, .slice none 0 0, .slice none 0 0, .slice none 0 0, .int .i64 0, .int .i64 0] 44)) (w1.heap.size + 1) [.pointer (some ⟨w1.heap.size, 0, none⟩)]) := by
  have h := Bx.new (w1.alloc (.cells #[.string x, .int .i64 0] 89)) [.pointer (some ⟨w1.heap.size, 0, none⟩)] 87
  rw [World.size_alloc] at h
  exact h.alloc _
 have BO : Hid (Bx (((w1.alloc (.cells #[.string x, .int .i64 0] 89)).alloc (.cells #[.pointer (some ⟨w1.heap.size, 0, none⟩)] 87)).alloc (.cells #[.int .i64 0, .int .i64 0, .int .i64 0, .int .i64 0, .int .i64 0, .slice none 0 0, .slice none 0 0, .bool false, .string ⟨#[]⟩, .string ⟨#[]⟩, .bool false, .slice none 0 0, .slice none 0 0, .slice none 0 0, .int .i64 0, .int .i64 0] 44)) (w1.heap.size + 1 + 1) [.int .i64 0, .int .i64 0, .int .i64 0, .int .i64 0, .int .i64 0, .slice none 0 0, .slice none 0 0, .bool false, .string ⟨#[]⟩, .string ⟨#[]⟩, .bool false, .slice none 0 0, .slice none 0 0, .slice none 0 0, .int .i64 0, .int .i64 0]) := by
  have h := Bx.new ((w1.alloc (.cells #[.string x, .int .i64 0] 89)).alloc (.cells #[.pointer (some ⟨w1.heap.size, 0, none⟩)] 87)) [.int .i64 0, .int .i64 0, .int .i64 0, .int .i64 0, .int .i64 0, .slice none 0 0, .slice none 0 0, .bool false, .string ⟨#[]⟩, .string ⟨#[]⟩, .bool false, .slice none 0 0, .slice none 0 0, .slice none 0 0, .int .i64 0, .int .i64 0] 44
  rw [World.size_alloc, World.size_alloc] at h
  exact h
 have HB : Hid (Below w.heap.size w (((w1.alloc (.cells #[.string x, .int .i64 0] 89)).alloc (.cells #[.pointer (some ⟨w1.heap.size, 0, none⟩)] 87)).alloc (.cells #[.int .i64 0, .int .i64 0, .int .i64 0, .int .i64 0, .int .i64 0, .slice none 0 0, .slice none 0 0, .bool false, .string ⟨#[]⟩, .string ⟨#[]⟩, .bool false, .slice none 0 0, .slice none 0 0, .slice none 0 0, .int .i64 0, .int .i64 0] 44))) := (((HB1.out).alloc HB1.out.size _).alloc (by rw [World.size_alloc]; omega) _).alloc (by rw [World.size_alloc, World.size_alloc]; omega) _
 have HS : Hid ((((w1.alloc (.cells #[.string x, .int .i64 0] 89)).alloc (.cells #[.pointer (some ⟨w1.heap.size, 0, none⟩)] 87)).alloc (.cells #[.int .i64 0, .int .i64 0, .int .i64 0, .int .i64 0, .int .i64 0, .slice none 0 0, .slice none 0 0, .bool false, .string ⟨#[]⟩, .string ⟨#[]⟩, .bool false, .slice none 0 0, .slice none 0 0, .slice none 0 0, .int .i64 0, .int .i64 0] 44)).heap.size = w1.heap.size + 1 + 1 + 1) := by show _ = _; rw [World.size_alloc, World.size_alloc, World.size_alloc]
 clear B1 HB1
 go_wp2_with fail
 generalize (((w1.alloc (.cells #[.string x, .int .i64 0] 89)).alloc (.cells #[.pointer (some ⟨w1.heap.size, 0, none⟩)] 87)).alloc (.cells #[.int .i64 0, .int .i64 0, .int .i64 0, .int .i64 0, .int .i64 0, .slice none 0 0, .slice none 0 0, .bool false, .string ⟨#[]⟩, .string ⟨#[]⟩, .bool false, .slice none 0 0, .slice none 0 0, .slice none 0 0, .int .i64 0, .int .i64 0] 44)) = W at B0 BG BR BO HB HS ⊢
 refine (CW.out x (w1.heap.size + 1) (w1.heap.size + 1 + 1) w1.heap.size 0 hs (by omega) _ BR.out BO.out BG.out).mono ?_
 rintro e w2 ⟨hk, ⟨rfl, hx⟩ | ⟨s, q, c, hx, hq, rfl, hsm, hl, hd, ho⟩⟩
 ·have B2 := hide (B0.out.kn hk (by simp <;> omega))
  have HB2 : Hid (Below w.heap.size w w2) := HB.out.trans (hk.below (by have := HS.out; omega) (by simp <;> omega))
  have HA : Hid (ansR x = (zR, false)) := by show _ = _; simp only [ansR, hx]
  clear hx hk B0 BG BR BO HB
  rw [HA.out] at ha
  cases ha
  go_upto_region 7 with fail
  refine wp_region_lit ?_
  refine wpList_plain rfl fun K hK => ?_
  go_simp
  refine hK _ _ ?_
  clear hK K
  refine wpStore16K (.int .i64 0) (.int .i64 0) (.int .i64 0) (.int .i64 0) (.int .i64 0) (.slice none 0 0) (.slice none 0 0) (.bool false) (.string ⟨#[]⟩) (.string ⟨#[]⟩) (.bool false) (.slice none 0 0) (.slice none 0 0) (.slice none 0 0) (.int .i64 0) (.int .i64 0) rfl 44 _ _ rfl (by kernel_rfl) (by kernel_rfl) (by kernel_rfl) B2.out (List.forall_mem_cons.2 ⟨rfl, List.forall_mem_cons.2 ⟨rfl, List.forall_mem_cons.2 ⟨rfl, List.forall_mem_cons.2 ⟨rfl, List.forall_mem_cons.2 ⟨rfl, List.forall_mem_cons.2 ⟨rfl, List.forall_mem_cons.2 ⟨rfl, List.forall_mem_cons.2 ⟨rfl, List.forall_mem_cons.2 ⟨rfl, List.forall_mem_cons.2 ⟨rfl, List.forall_mem_cons.2 ⟨rfl, List.forall_mem_cons.2 ⟨rfl, List.forall_mem_cons.2 ⟨rfl, List.forall_mem_cons.2 ⟨rfl, List.forall_mem_cons.2 ⟨rfl, List.forall_mem_cons.2 ⟨rfl, fun _ h => by cases h⟩⟩⟩⟩⟩⟩⟩⟩⟩⟩⟩⟩⟩⟩⟩⟩) (fun WF bf zf => ?_)
  have BF := hide bf
  have HBF : Hid (Below w.heap.size w WF) := HB2.out.trans (zf.below (Nat.le_refl _) HB2.out.size)
  clear B2 HB2 bf zf
  go_wp2
  have q0_ := BF.out.c0
  have q1_ := BF.out.c1
  have q2_ := BF.out.c2
  have q3_ := BF.out.c3
  have q4_ := BF.out.c4
  have q5_ := BF.out.c5
  have q6_ := BF.out.c6
  have q7_ := BF.out.c7
  have q8_ := BF.out.c8
  have q9_ := BF.out.c9
  have q10_ := BF.out.c10
  have q11_ := BF.out.c11
  have q12_ := BF.out.c12
  have q13_ := BF.out.c13
  have q14_ := BF.out.c14
  have q15_ := BF.out.c15
  refine bodyPost_ret (v := .tuple #[.agg #[.int .i64 0, .int .i64 0, .int .i64 0, .int .i64 0, .int .i64 0, .slice none 0 0, .slice none 0 0, .bool false, .string ⟨#[]⟩, .string ⟨#[]⟩, .bool false, .slice none 0 0, .slice none 0 0, .slice none 0 0, .int .i64 0, .int .i64 0], .bool false]) (by simp [results, Tryz.results11, go_sem, q0_, q1_, q2_, q3_, q4_, q5_, q6_, q7_, q8_, q9_, q10_, q11_, q12_, q13_, q14_, q15_]) rfl ⟨zR, rfl, zRsame, zRlie _ _ _ HBF.out.size, HBF.out⟩
 ·have B2 := hide (B0.out.kn hk (by simp <;> omega))
  have R2 := hide (BR.out.kn hk (by simp <;> omega))
  have HB2 : Hid (Below w.heap.size w w2) := HB.out.trans (hk.below (by have := HS.out; omega) (by simp <;> omega))
  have G2 := hide hd
  have O2 := hide ho
  have HL := hide hl
  have HM := hide hsm
  have HX := hide hx
  clear hx hk B0 BG BR BO HB hl hd ho hsm
  have k0 := R2.out.c0
  have k1 := G2.out.c1
  by_cases hlt2 : q < x.size
  ·have HA : Hid (ansR x = (zR, false)) := by show _ = _; simp only [ansR, HX.out]; rw [if_pos hlt2]
   have hde : decide ((q : Int) < (x.size : Int)) = true := by simpa using hlt2
   rw [HA.out] at ha
   cases ha
   go_upto_region 7 with fail
   refine wp_region_lit ?_
   refine wpList_plain rfl fun K hK => ?_
   go_simp
   refine hK _ _ ?_
   clear hK K
   refine wpStore16K (.int .i64 0) (.int .i64 0) (.int .i64 0) (.int .i64 0) (.int .i64 0) (.slice none 0 0) (.slice none 0 0) (.bool false) (.string ⟨#[]⟩) (.string ⟨#[]⟩) (.bool false) (.slice none 0 0) (.slice none 0 0) (.slice none 0 0) (.int .i64 0) (.int .i64 0) rfl 44 _ _ rfl (by kernel_rfl) (by kernel_rfl) (by kernel_rfl) B2.out (List.forall_mem_cons.2 ⟨rfl, List.forall_mem_cons.2 ⟨rfl, List.forall_mem_cons.2 ⟨rfl, List.forall_mem_cons.2 ⟨rfl, List.forall_mem_cons.2 ⟨rfl, List.forall_mem_cons.2 ⟨rfl, List.forall_mem_cons.2 ⟨rfl, List.forall_mem_cons.2 ⟨rfl, List.forall_mem_cons.2 ⟨rfl, List.forall_mem_cons.2 ⟨rfl, List.forall_mem_cons.2 ⟨rfl, List.forall_mem_cons.2 ⟨rfl, List.forall_mem_cons.2 ⟨rfl, List.forall_mem_cons.2 ⟨rfl, List.forall_mem_cons.2 ⟨rfl, List.forall_mem_cons.2 ⟨rfl, fun _ h => by cases h⟩⟩⟩⟩⟩⟩⟩⟩⟩⟩⟩⟩⟩⟩⟩⟩) (fun WF bf zf => ?_)
   have BF := hide bf
   have HBF : Hid (Below w.heap.size w WF) := HB2.out.trans (zf.below (Nat.le_refl _) HB2.out.size)
   clear B2 HB2 k0 k1 R2 G2 O2 HL bf zf
   go_wp2
   have q0_ := BF.out.c0
   have q1_ := BF.out.c1
   have q2_ := BF.out.c2
   have q3_ := BF.out.c3
   have q4_ := BF.out.c4
   have q5_ := BF.out.c5
   have q6_ := BF.out.c6
   have q7_ := BF.out.c7
   have q8_ := BF.out.c8
   have q9_ := BF.out.c9
   have q10_ := BF.out.c10
   have q11_ := BF.out.c11
   have q12_ := BF.out.c12
   have q13_ := BF.out.c13
   have q14_ := BF.out.c14
   have q15_ := BF.out.c15
   refine bodyPost_ret (v := .tuple #[.agg #[.int .i64 0, .int .i64 0, .int .i64 0, .int .i64 0, .int .i64 0, .slice none 0 0, .slice none 0 0, .bool false, .string ⟨#[]⟩, .string ⟨#[]⟩, .bool false, .slice none 0 0, .slice none 0 0, .slice none 0 0, .int .i64 0, .int .i64 0], .bool false]) (by simp [results, Tryz.results11, go_sem, q0_, q1_, q2_, q3_, q4_, q5_, q6_, q7_, q8_, q9_, q10_, q11_, q12_, q13_, q14_, q15_]) rfl ⟨zR, rfl, zRsame, zRlie _ _ _ HBF.out.size, HBF.out⟩
  ·have HA : Hid (ansR x = (s, true)) := by show _ = _; simp only [ansR, HX.out]; rw [if_neg hlt2]
   have hde : decide ((q : Int) < (x.size : Int)) = false := by simpa using hlt2
   rw [HA.out] at ha
   cases ha
   go_upto_region 8 with fail
   clear k0 k1 hde
   refine wp_region_lit ?_
   refine wpLoad16 rfl 44 _ rfl _ Tryz.underlying44 rfl (by kernel_rfl) (by kernel_rfl) O2.out ?_
   simp only [Act.put, List.setIfInBounds_toArray, List.set_cons_zero, List.set_cons_succ]
   refine wpStore16K (.int .i64 c.k) (.int .i64 c.t.t.id) (.int .i64 c.t.t.st) (.int .i64 c.t.t.snap) (.int .i64 c.t.t.cs) (.slice c.t.ra c.t.t.rs.length c.t.rc) (.slice c.t.wa c.t.t.ws.length c.t.wc) (.bool c.t.t.out) (.string c.t.t.nm) (.string c.nm) (.bool c.yes) (.slice c.b.va c.b.vs.length c.b.vc) (.slice c.b.pa c.b.ps.length c.b.pc) (.slice c.b.qa c.b.qs.length c.b.qc) (.int .i64 c.b.cs) (.int .i64 c.b.nx) rfl 44 _ _ rfl (by kernel_rfl) (by kernel_rfl) (by kernel_rfl) B2.out (List.forall_mem_cons.2 ⟨rfl, List.forall_mem_cons.2 ⟨rfl, List.forall_mem_cons.2 ⟨rfl, List.forall_mem_cons.2 ⟨rfl, List.forall_mem_cons.2 ⟨rfl, List.forall_mem_cons.2 ⟨rfl, List.forall_mem_cons.2 ⟨rfl, List.forall_mem_cons.2 ⟨rfl, List.forall_mem_cons.2 ⟨rfl, List.forall_mem_cons.2 ⟨rfl, List.forall_mem_cons.2 ⟨rfl, List.forall_mem_cons.2 ⟨rfl, List.forall_mem_cons.2 ⟨rfl, List.forall_mem_cons.2 ⟨rfl, List.forall_mem_cons.2 ⟨rfl, List.forall_mem_cons.2 ⟨rfl, fun _ h => by cases h⟩⟩⟩⟩⟩⟩⟩⟩⟩⟩⟩⟩⟩⟩⟩⟩) (fun WF bf zf => ?_)
   have BF := hide bf
   have HBF : Hid (Below w.heap.size w WF) := HB2.out.trans (zf.below (Nat.le_refl _) HB2.out.size)
   have LF : Hid (RcLie WF w.heap.size WF.heap.size c) := (HL.out.zn zf (Or.inr (by have := HS.out; omega))).mono (by have := HS.out; omega) zf.size
   clear R2 G2 O2 HL B2 HB2 bf zf
   go_wp2
   have q0_ := BF.out.c0
   have q1_ := BF.out.c1
   have q2_ := BF.out.c2
   have q3_ := BF.out.c3
   have q4_ := BF.out.c4
   have q5_ := BF.out.c5
   have q6_ := BF.out.c6
   have q7_ := BF.out.c7
   have q8_ := BF.out.c8
   have q9_ := BF.out.c9
   have q10_ := BF.out.c10
   have q11_ := BF.out.c11
   have q12_ := BF.out.c12
   have q13_ := BF.out.c13
   have q14_ := BF.out.c14
   have q15_ := BF.out.c15
   refine bodyPost_ret (v := .tuple #[.agg #[.int .i64 c.k, .int .i64 c.t.t.id, .int .i64 c.t.t.st, .int .i64 c.t.t.snap, .int .i64 c.t.t.cs, .slice c.t.ra c.t.t.rs.length c.t.rc, .slice c.t.wa c.t.t.ws.length c.t.wc, .bool c.t.t.out, .string c.t.t.nm, .string c.nm, .bool c.yes, .slice c.b.va c.b.vs.length c.b.vc, .slice c.b.pa c.b.ps.length c.b.pc, .slice c.b.qa c.b.qs.length c.b.qc, .int .i64 c.b.cs, .int .i64 c.b.nx], .bool true]) (by simp [results, Tryz.results11, go_sem, q0_, q1_, q2_, q3_, q4_, q5_, q6_, q7_, q8_, q9_, q10_, q11_, q12_, q13_, q14_, q15_]) rfl ⟨c, rfl, HM.out, LF.out, HBF.out⟩

end Go.Proofs.YtpnnncfbodfnhaaGreatDoor

namespace Go.Proofs.YtpnnncfbodfnhaaGreatDoor
open Go.RowKit
open KM
open VM
attribute [local go_sem ↓] Go.wp_at_zero Go.wp_at_succ

structure BLow (B : Nat) (b : Bb) : Prop where
 v : ∀ b' off, b.va = some ⟨b', off, none⟩ → 0 < b.vs.length → b' < B
 p : ∀ b' off, b.pa = some ⟨b', off, none⟩ → 0 < b.ps.length → b' < B
 pe : ∀ x ∈ b.ps, TLow B x
 q : ∀ b' off, b.qa = some ⟨b', off, none⟩ → 0 < b.qs.length → b' < B
 qe : ∀ x ∈ b.qs, TLow B x
theorem TRows.low {w w' : World} {B : Nat} {a : Option Addr} {xs : List Ta} (h : TRows w a xs) (hb : Below B w w') (h1 : ∀ b' off, a = some ⟨b', off, none⟩ → 0 < xs.length → b' < B) (h2 : ∀ x ∈ xs, TLow B x) : TRows w' a xs := ⟨grow_low h.row hb h1, fun x hx => (h.each x hx).low hb (h2 x hx)⟩
theorem BRows.low {w w' : World} {B : Nat} {b : Bb} (h : BRows w b) (hb : Below B w w') (hl : BLow B b) : BRows w' b := ⟨grow_low h.v hb hl.v, h.p.low hb hl.p hl.pe, h.q.low hb hl.q hl.qe⟩

def btxV (b : Bb) : Value := if sbB b = true then .tuple #[.string ⟨(bsL b).toArray⟩, .bool true] else .tuple #[.string ⟨#[]⟩, .bool false]
theorem ts_same {xs ys : List Ta} (h : txs ys = txs xs) : tsL ys = tsL xs := by
 have e : ∀ zs : List Ta, tsL zs = (txs zs).flatMap txL := fun zs => by unfold tsL txs; rw [List.flatMap_map]
 rw [e, e, h]
end Go.Proofs.YtpnnncfbodfnhaaGreatDoor
