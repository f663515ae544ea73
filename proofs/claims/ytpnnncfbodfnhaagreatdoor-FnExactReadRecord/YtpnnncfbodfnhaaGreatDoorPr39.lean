/- What spec.ReadRecord returns: of an end. -/
import Derived.Test.YtpnnncfbodfnhaaGreatDoorPr35
import Derived.Test.YtpnnncfbodfnhaaGreatDoorPr36
import Derived.Test.YtpnnncfbodfnhaaGreatDoorPr31
import Derived.Test.YtpnnncfbodfnhaaGreatDoorPr32
import Derived.Test.YtpnnncfbodfnhaaGreatDoorPr37
import Derived.Test.YtpnnncfbodfnhaaGreatDoorPr38
namespace Go.Proofs.YtpnnncfbodfnhaaGreatDoor
open Go.RowKit
open KM
open VM
attribute [local go_sem ↓] Go.wp_at_zero Go.wp_at_succ

set_option maxRecDepth 100000 in
set_option maxHeartbeats 4000000 in
theorem srrE (t u : ByteArray) (K : Nat) (hs : u.size ≤ 1048576) (hu : 0 < u.size) (hK : u[0].toNat = 3) (k3 : K = 3) (w : World) (CU : Hid (∀ W, Below w.heap.size w W → Calls Tryz.prog 30 #[.string t] W fun e w' => e = .returned (.tuple #[.string u, .bool true]) ∧ Below W.heap.size W w')) :
  Calls Tryz.prog 10 #[.string t] w fun e w' => ∃ r, sRc u K r ∧ Below w.heap.size w w' ∧ ((recB r = true ∧ sealB ⟨(rcL r).toArray⟩ = t ∧ e = .returned (.tuple #[.agg #[.int .i64 r.k, .int .i64 r.t.t.id, .int .i64 r.t.t.st, .int .i64 r.t.t.snap, .int .i64 r.t.t.cs, .slice r.t.ra r.t.t.rs.length r.t.rc, .slice r.t.wa r.t.t.ws.length r.t.wc, .bool r.t.t.out, .string r.t.t.nm, .string r.nm, .bool r.yes, .slice r.b.va r.b.vs.length r.b.vc, .slice r.b.pa r.b.ps.length r.b.pc, .slice r.b.qa r.b.qs.length r.b.qc, .int .i64 r.b.cs, .int .i64 r.b.nx], .bool true]) ∧ RcLie w' w.heap.size w'.heap.size r) ∨ (¬ (recB r = true ∧ sealB ⟨(rcL r).toArray⟩ = t) ∧ e = .returned (.tuple #[.agg #[.int .i64 0, .int .i64 0, .int .i64 0, .int .i64 0, .int .i64 0, .slice none 0 0, .slice none 0 0, .bool false, .string ⟨#[]⟩, .string ⟨#[]⟩, .bool false, .slice none 0 0, .slice none 0 0, .slice none 0 0, .int .i64 0, .int .i64 0], .bool false]))) := by
 have hne0 : u.toList.isEmpty = false := by
  cases h : u.toList.isEmpty
  ·rfl
  ·have := empty_size h
   omega
 have hu0 : (0 : Int) < (u.size : Int) := by omega
 have B0 : Hid (Bx (w.alloc (.cells #[.int .i64 0, .int .i64 0, .int .i64 0, .int .i64 0, .int .i64 0, .slice none 0 0, .slice none 0 0, .bool false, .string ⟨#[]⟩, .string ⟨#[]⟩, .bool false, .slice none 0 0, .slice none 0 0, .slice none 0 0, .int .i64 0, .int .i64 0] 44)) w.heap.size [.int .i64 0, .int .i64 0, .int .i64 0, .int .i64 0, .int .i64 0, .slice none 0 0, .slice none 0 0, .bool false, .string ⟨#[]⟩, .string ⟨#[]⟩, .bool false, .slice none 0 0, .slice none 0 0, .slice none 0 0, .int .i64 0, .int .i64 0]) := Bx.new w [.int .i64 0, .int .i64 0, .int .i64 0, .int .i64 0, .int .i64 0, .slice none 0 0, .slice none 0 0, .bool false, .string ⟨#[]⟩, .string ⟨#[]⟩, .bool false, .slice none 0 0, .slice none 0 0, .slice none 0 0, .int .i64 0, .int .i64 0] 44
 have HB0 : Hid (Below w.heap.size w (w.alloc (.cells #[.int .i64 0, .int .i64 0, .int .i64 0, .int .i64 0, .int .i64 0, .slice none 0 0, .slice none 0 0, .bool false, .string ⟨#[]⟩, .string ⟨#[]⟩, .bool false, .slice none 0 0, .slice none 0 0, .slice none 0 0, .int .i64 0, .int .i64 0] 44))) := (belowRefl w).alloc (Nat.le_refl _) _
 go_enter Tryz.func10, Tryz.ntmps10
 go_wp2_with fail
 generalize (w.alloc (.cells #[.int .i64 0, .int .i64 0, .int .i64 0, .int .i64 0, .int .i64 0, .slice none 0 0, .slice none 0 0, .bool false, .string ⟨#[]⟩, .string ⟨#[]⟩, .bool false, .slice none 0 0, .slice none 0 0, .slice none 0 0, .int .i64 0, .int .i64 0] 44)) = W0 at B0 HB0 ⊢
 refine (CU.out _ HB0.out).mono ?_
 rintro e w1 ⟨rfl, hb⟩
 have B1 := hide (B0.out.below hb)
 have HB1 : Hid (Below w.heap.size w w1) := HB0.out.trans (hb.mono HB0.out.size)
 clear hb B0 HB0
 have hb1 : Below w1.heap.size w1 (w1.alloc (.cells #[.int .i64 3, .int .i64 0, .int .i64 0, .int .i64 0, .int .i64 0, .slice none 0 0, .slice none 0 0, .bool false, .string ⟨#[]⟩, .string ⟨#[]⟩, .bool false, .slice none 0 0, .slice none 0 0, .slice none 0 0, .int .i64 0, .int .i64 0] 44)) := (belowRefl w1).alloc (Nat.le_refl _) _
 have B2 : Hid (Bx (w1.alloc (.cells #[.int .i64 3, .int .i64 0, .int .i64 0, .int .i64 0, .int .i64 0, .slice none 0 0, .slice none 0 0, .bool false, .string ⟨#[]⟩, .string ⟨#[]⟩, .bool false, .slice none 0 0, .slice none 0 0, .slice none 0 0, .int .i64 0, .int .i64 0] 44)) w.heap.size [.int .i64 0, .int .i64 0, .int .i64 0, .int .i64 0, .int .i64 0, .slice none 0 0, .slice none 0 0, .bool false, .string ⟨#[]⟩, .string ⟨#[]⟩, .bool false, .slice none 0 0, .slice none 0 0, .slice none 0 0, .int .i64 0, .int .i64 0]) := B1.out.below hb1
 have HB2 : Hid (Below w.heap.size w (w1.alloc (.cells #[.int .i64 3, .int .i64 0, .int .i64 0, .int .i64 0, .int .i64 0, .slice none 0 0, .slice none 0 0, .bool false, .string ⟨#[]⟩, .string ⟨#[]⟩, .bool false, .slice none 0 0, .slice none 0 0, .slice none 0 0, .int .i64 0, .int .i64 0] 44))) := HB1.out.trans (hb1.mono HB1.out.size)
 have BX2 : Hid (Bx (w1.alloc (.cells #[.int .i64 3, .int .i64 0, .int .i64 0, .int .i64 0, .int .i64 0, .slice none 0 0, .slice none 0 0, .bool false, .string ⟨#[]⟩, .string ⟨#[]⟩, .bool false, .slice none 0 0, .slice none 0 0, .slice none 0 0, .int .i64 0, .int .i64 0] 44)) w1.heap.size [.int .i64 3, .int .i64 0, .int .i64 0, .int .i64 0, .int .i64 0, .slice none 0 0, .slice none 0 0, .bool false, .string ⟨#[]⟩, .string ⟨#[]⟩, .bool false, .slice none 0 0, .slice none 0 0, .slice none 0 0, .int .i64 0, .int .i64 0]) := Bx.new w1 [.int .i64 3, .int .i64 0, .int .i64 0, .int .i64 0, .int .i64 0, .slice none 0 0, .slice none 0 0, .bool false, .string ⟨#[]⟩, .string ⟨#[]⟩, .bool false, .slice none 0 0, .slice none 0 0, .slice none 0 0, .int .i64 0, .int .i64 0] 44
 have S2 : Hid (w.heap.size < w1.heap.size) := B1.out.lt
 have S3 : Hid (w1.heap.size + 1 = (w1.alloc (.cells #[.int .i64 3, .int .i64 0, .int .i64 0, .int .i64 0, .int .i64 0, .slice none 0 0, .slice none 0 0, .bool false, .string ⟨#[]⟩, .string ⟨#[]⟩, .bool false, .slice none 0 0, .slice none 0 0, .slice none 0 0, .int .i64 0, .int .i64 0] 44)).heap.size) := by show _ = _; rw [World.size_alloc]
 clear hb1 B1 HB1
 have u0 := BX2.out.c0
 have CR : Hid (Cr ((w1.alloc (.cells #[.int .i64 3, .int .i64 0, .int .i64 0, .int .i64 0, .int .i64 0, .slice none 0 0, .slice none 0 0, .bool false, .string ⟨#[]⟩, .string ⟨#[]⟩, .bool false, .slice none 0 0, .slice none 0 0, .slice none 0 0, .int .i64 0, .int .i64 0] 44)).alloc (.cells #[.string u, .int .i64 1, .bool false] 80)) (w1.heap.size + 1) u 1 false) := by
  have h := Bx.new (w1.alloc (.cells #[.int .i64 3, .int .i64 0, .int .i64 0, .int .i64 0, .int .i64 0, .slice none 0 0, .slice none 0 0, .bool false, .string ⟨#[]⟩, .string ⟨#[]⟩, .bool false, .slice none 0 0, .slice none 0 0, .slice none 0 0, .int .i64 0, .int .i64 0] 44)) [.string u, .int .i64 1, .bool false] 80
  rw [World.size_alloc] at h
  exact h
 have B3 : Hid (Bx ((w1.alloc (.cells #[.int .i64 3, .int .i64 0, .int .i64 0, .int .i64 0, .int .i64 0, .slice none 0 0, .slice none 0 0, .bool false, .string ⟨#[]⟩, .string ⟨#[]⟩, .bool false, .slice none 0 0, .slice none 0 0, .slice none 0 0, .int .i64 0, .int .i64 0] 44)).alloc (.cells #[.string u, .int .i64 1, .bool false] 80)) w.heap.size [.int .i64 0, .int .i64 0, .int .i64 0, .int .i64 0, .int .i64 0, .slice none 0 0, .slice none 0 0, .bool false, .string ⟨#[]⟩, .string ⟨#[]⟩, .bool false, .slice none 0 0, .slice none 0 0, .slice none 0 0, .int .i64 0, .int .i64 0]) := B2.out.alloc _
 have BX3 : Hid (Bx ((w1.alloc (.cells #[.int .i64 3, .int .i64 0, .int .i64 0, .int .i64 0, .int .i64 0, .slice none 0 0, .slice none 0 0, .bool false, .string ⟨#[]⟩, .string ⟨#[]⟩, .bool false, .slice none 0 0, .slice none 0 0, .slice none 0 0, .int .i64 0, .int .i64 0] 44)).alloc (.cells #[.string u, .int .i64 1, .bool false] 80)) w1.heap.size [.int .i64 3, .int .i64 0, .int .i64 0, .int .i64 0, .int .i64 0, .slice none 0 0, .slice none 0 0, .bool false, .string ⟨#[]⟩, .string ⟨#[]⟩, .bool false, .slice none 0 0, .slice none 0 0, .slice none 0 0, .int .i64 0, .int .i64 0]) := BX2.out.alloc _
 have HB3 : Hid (Below w.heap.size w ((w1.alloc (.cells #[.int .i64 3, .int .i64 0, .int .i64 0, .int .i64 0, .int .i64 0, .slice none 0 0, .slice none 0 0, .bool false, .string ⟨#[]⟩, .string ⟨#[]⟩, .bool false, .slice none 0 0, .slice none 0 0, .slice none 0 0, .int .i64 0, .int .i64 0] 44)).alloc (.cells #[.string u, .int .i64 1, .bool false] 80))) := HB2.out.alloc HB2.out.size _
 have Z3 : Hid (w1.heap.size + 1 ≤ ((w1.alloc (.cells #[.int .i64 3, .int .i64 0, .int .i64 0, .int .i64 0, .int .i64 0, .slice none 0 0, .slice none 0 0, .bool false, .string ⟨#[]⟩, .string ⟨#[]⟩, .bool false, .slice none 0 0, .slice none 0 0, .slice none 0 0, .int .i64 0, .int .i64 0] 44)).alloc (.cells #[.string u, .int .i64 1, .bool false] 80)).heap.size) := by show _ ≤ _; rw [World.size_alloc, World.size_alloc]; omega
 clear B2 BX2 HB2
 have hne2 : w1.heap.size ≠ w.heap.size := by have := S2.out; omega
 have hne3 : w.heap.size ≠ w1.heap.size + 1 := by have := S2.out; omega
 have hne4 : w1.heap.size ≠ w1.heap.size + 1 := by omega
 go_wp2_with fail
 clear u0 S3
 generalize ((w1.alloc (.cells #[.int .i64 3, .int .i64 0, .int .i64 0, .int .i64 0, .int .i64 0, .slice none 0 0, .slice none 0 0, .bool false, .string ⟨#[]⟩, .string ⟨#[]⟩, .bool false, .slice none 0 0, .slice none 0 0, .slice none 0 0, .int .i64 0, .int .i64 0] 44)).alloc (.cells #[.string u, .int .i64 1, .bool false] 80)) = w2 at *
 refine (sshrt u (w1.heap.size + 1) 1 false hs _ CR.out).mono ?_
 rintro e w3 ⟨s1, p1, b1, rfl, hz, hst, hd, hg⟩
 have HZ := hide hz
 have HS1 := hide hst
 replace B3 := hide (B3.out.grown hg hne3)
 replace BX3 := hide (BX3.out.grown hg hne4)
 replace HB3 : Hid (Below w.heap.size w w3) := HB3.out.grown hg HB3.out.size (fun j hj => by cases hj; have := S2.out; omega)
 replace Z3 : Hid (w1.heap.size + 1 ≤ w3.heap.size) := Nat.le_trans Z3.out hg.size
 replace CR := hide hd
 clear hz hst hd hg
 have u9 := BX3.out.c9
 have fu9 := BX3.out.fz 9
 go_upto_region 10 with fail
 clear u9 fu9
 replace B3 : Hid (Bx (w3.setCell ⟨w1.heap.size, 9, none⟩ (.string s1)) w.heap.size [.int .i64 0, .int .i64 0, .int .i64 0, .int .i64 0, .int .i64 0, .slice none 0 0, .slice none 0 0, .bool false, .string ⟨#[]⟩, .string ⟨#[]⟩, .bool false, .slice none 0 0, .slice none 0 0, .slice none 0 0, .int .i64 0, .int .i64 0]) := B3.out.setO (p := ⟨w1.heap.size, 9, none⟩) hne2 _
 replace BX3 : Hid (Bx (w3.setCell ⟨w1.heap.size, 9, none⟩ (.string s1)) w1.heap.size [.int .i64 3, .int .i64 0, .int .i64 0, .int .i64 0, .int .i64 0, .slice none 0 0, .slice none 0 0, .bool false, .string ⟨#[]⟩, .string s1, .bool false, .slice none 0 0, .slice none 0 0, .slice none 0 0, .int .i64 0, .int .i64 0]) := BX3.out.set 9 _
 replace HB3 : Hid (Below w.heap.size w (w3.setCell ⟨w1.heap.size, 9, none⟩ (.string s1))) := HB3.out.setCell (p := ⟨w1.heap.size, 9, none⟩) (by have := S2.out; show w.heap.size ≤ w1.heap.size; omega) _
 replace Z3 : Hid (w1.heap.size + 1 ≤ (w3.setCell ⟨w1.heap.size, 9, none⟩ (.string s1)).heap.size) := by show _ ≤ _; simpa [World.setCell] using Z3.out
 replace CR : Hid (Cr (w3.setCell ⟨w1.heap.size, 9, none⟩ (.string s1)) (w1.heap.size + 1) u p1 b1) := CR.out.setO (p := ⟨w1.heap.size, 9, none⟩) hne4 _
 generalize (w3.setCell ⟨w1.heap.size, 9, none⟩ (.string s1)) = w4 at *
 go_wp2_with fail
 refine (sbit7 u (w1.heap.size + 1) p1 b1 hs (Stp.nonneg HS1.out) _ CR.out).mono ?_
 rintro e w7 ⟨f1, p2, b2, rfl, hst, hd, hg⟩
 have HS2 := hide hst
 replace B3 := hide (B3.out.grown hg hne3)
 replace BX3 := hide (BX3.out.grown hg hne4)
 replace HB3 : Hid (Below w.heap.size w w7) := HB3.out.grown hg HB3.out.size (fun j hj => by cases hj; have := S2.out; omega)
 replace Z3 : Hid (w1.heap.size + 1 ≤ w7.heap.size) := Nat.le_trans Z3.out hg.size
 clear hst hd hg CR
 have u10 := BX3.out.c10
 have fu10 := BX3.out.fz 10
 go_upto_region 13 with fail
 clear u10 fu10
 have B2 : Hid (Bx (w7.setCell ⟨w1.heap.size, 10, none⟩ (.bool f1)) w.heap.size [.int .i64 0, .int .i64 0, .int .i64 0, .int .i64 0, .int .i64 0, .slice none 0 0, .slice none 0 0, .bool false, .string ⟨#[]⟩, .string ⟨#[]⟩, .bool false, .slice none 0 0, .slice none 0 0, .slice none 0 0, .int .i64 0, .int .i64 0]) := B3.out.setO (p := ⟨w1.heap.size, 10, none⟩) hne2 _
 have BX2 : Hid (Bx (w7.setCell ⟨w1.heap.size, 10, none⟩ (.bool f1)) w1.heap.size [.int .i64 3, .int .i64 0, .int .i64 0, .int .i64 0, .int .i64 0, .slice none 0 0, .slice none 0 0, .bool false, .string ⟨#[]⟩, .string s1, .bool f1, .slice none 0 0, .slice none 0 0, .slice none 0 0, .int .i64 0, .int .i64 0]) := BX3.out.set 10 _
 have HB2 : Hid (Below w.heap.size w (w7.setCell ⟨w1.heap.size, 10, none⟩ (.bool f1))) := HB3.out.setCell (p := ⟨w1.heap.size, 10, none⟩) (by have := S2.out; show w.heap.size ≤ w1.heap.size; omega) _
 replace Z3 : Hid (w1.heap.size + 1 ≤ (w7.setCell ⟨w1.heap.size, 10, none⟩ (.bool f1)).heap.size) := by show _ ≤ _; simpa [World.setCell] using Z3.out
 clear B3 BX3 HB3
 generalize (w7.setCell ⟨w1.heap.size, 10, none⟩ (.bool f1)) = w6 at *
 have LC : Hid (RcLie w6 (w1.heap.size + 1) w6.heap.size ⟨3, ⟨zT, none, 0, none, 0⟩, s1, f1, zB⟩) := ⟨w6.heap.size, Z3.out, Nat.le_refl _, zlie _ _ _ Z3.out, zBlie _ _ _ (Nat.le_refl _)⟩
 have FT : Hid (RcFit ⟨3, ⟨zT, none, 0, none, 0⟩, s1, f1, zB⟩) := ⟨zT_fit, by have := HZ.out; show s1.size ≤ _; omega, zB_fit⟩
 have SR : Hid (sRc u K ⟨3, ⟨zT, none, 0, none, 0⟩, s1, f1, zB⟩) := Or.inr (Or.inl ⟨k3, s1, f1, p1, p2, b1, b2, HS1.out, HS2.out, rfl, rfl, rfl, rfl, ⟨rfl, rfl, rfl, rfl, rfl⟩⟩)
 clear Z3 HS1 HS2 HZ CU
 as_aux_lemma =>
  have HRw : Hid (RcRows w6 ⟨3, ⟨zT, none, 0, none, 0⟩, s1, f1, zB⟩) := LC.out.rows
  have CC : Hid (∀ W, RcRows W ⟨3, ⟨zT, none, 0, none, 0⟩, s1, f1, zB⟩ → Calls Tryz.prog 6 #[.agg #[.int .i64 3, .int .i64 0, .int .i64 0, .int .i64 0, .int .i64 0, .slice none 0 0, .slice none 0 0, .bool false, .string ⟨#[]⟩, .string s1, .bool f1, .slice none 0 0, .slice none 0 0, .slice none 0 0, .int .i64 0, .int .i64 0]] W fun e w' => e = .returned (rctV ⟨3, ⟨zT, none, 0, none, 0⟩, s1, f1, zB⟩) ∧ Below W.heap.size W w') := fun W h => srct ⟨3, ⟨zT, none, 0, none, 0⟩, s1, f1, zB⟩ FT.out W h
  cases hrb : recB ⟨3, ⟨zT, none, 0, none, 0⟩, s1, f1, zB⟩
  ·have HV : Hid (rctV ⟨3, ⟨zT, none, 0, none, 0⟩, s1, f1, zB⟩ = .tuple #[.string ⟨#[]⟩, .bool false]) := by show _ = _; unfold rctV; rw [hrb]; rfl
   have HN : Hid (¬ (recB ⟨3, ⟨zT, none, 0, none, 0⟩, s1, f1, zB⟩ = true ∧ sealB ⟨(rcL ⟨3, ⟨zT, none, 0, none, 0⟩, s1, f1, zB⟩).toArray⟩ = t)) := fun h => by have := h.1; rw [hrb] at this; cases this
   clear hrb
   rw [HV.out] at CC
   as_aux_lemma =>
    have u0 := BX2.out.c0
    have u1 := BX2.out.c1
    have u2 := BX2.out.c2
    have u3 := BX2.out.c3
    have u4 := BX2.out.c4
    have u5 := BX2.out.c5
    have u6 := BX2.out.c6
    have u7 := BX2.out.c7
    have u8 := BX2.out.c8
    have u9 := BX2.out.c9
    have u10 := BX2.out.c10
    have u11 := BX2.out.c11
    have u12 := BX2.out.c12
    have u13 := BX2.out.c13
    have u14 := BX2.out.c14
    have u15 := BX2.out.c15
    go_wp2_with fail
    refine (CC.out _ HRw.out).mono ?_
    rintro e w5 ⟨rfl, hb⟩
    have B5 := hide (B2.out.below hb)
    have HB5 : Hid (Below w.heap.size w w5) := HB2.out.trans (hb.mono HB2.out.size)
    clear hb u0 u1 u2 u3 u4 u5 u6 u7 u8 u9 u10 u11 u12 u13 u14 u15 BX2 B2 HB2 LC HRw
    go_upto_region 15 with fail
    refine wp_region_lit ?_
    refine wpList_plain rfl fun K hK => ?_
    go_simp
    refine hK _ _ ?_
    clear hK K
    refine wpStore16K (.int .i64 0) (.int .i64 0) (.int .i64 0) (.int .i64 0) (.int .i64 0) (.slice none 0 0) (.slice none 0 0) (.bool false) (.string ⟨#[]⟩) (.string ⟨#[]⟩) (.bool false) (.slice none 0 0) (.slice none 0 0) (.slice none 0 0) (.int .i64 0) (.int .i64 0) rfl 44 _ _ rfl (by kernel_rfl) (by kernel_rfl) (by kernel_rfl) B5.out (List.forall_mem_cons.2 ⟨rfl, List.forall_mem_cons.2 ⟨rfl, List.forall_mem_cons.2 ⟨rfl, List.forall_mem_cons.2 ⟨rfl, List.forall_mem_cons.2 ⟨rfl, List.forall_mem_cons.2 ⟨rfl, List.forall_mem_cons.2 ⟨rfl, List.forall_mem_cons.2 ⟨rfl, List.forall_mem_cons.2 ⟨rfl, List.forall_mem_cons.2 ⟨rfl, List.forall_mem_cons.2 ⟨rfl, List.forall_mem_cons.2 ⟨rfl, List.forall_mem_cons.2 ⟨rfl, List.forall_mem_cons.2 ⟨rfl, List.forall_mem_cons.2 ⟨rfl, List.forall_mem_cons.2 ⟨rfl, fun _ h => by cases h⟩⟩⟩⟩⟩⟩⟩⟩⟩⟩⟩⟩⟩⟩⟩⟩) (fun WF bf zf => ?_)
    have BF := hide bf
    have HBF : Hid (Below w.heap.size w WF) := HB5.out.trans (zf.below (Nat.le_refl _) HB5.out.size)
    clear B5 HB5 bf zf
    go_wp2
    have q0_ := BF.out.c0
    have q1_ := BF.out.c1
    have q2_ := BF.out.c2
    have q3_ := BF.out.c3
    have q4_ := BF.out.c4
    have q5_ := BF.out.c5
    have q6_ := BF.out.c6
    have q7_ := BF.out.c7
    have q8_ := BF.out.c8
    have q9_ := BF.out.c9
    have q10_ := BF.out.c10
    have q11_ := BF.out.c11
    have q12_ := BF.out.c12
    have q13_ := BF.out.c13
    have q14_ := BF.out.c14
    have q15_ := BF.out.c15
    refine bodyPost_ret (v := .tuple #[.agg #[.int .i64 0, .int .i64 0, .int .i64 0, .int .i64 0, .int .i64 0, .slice none 0 0, .slice none 0 0, .bool false, .string ⟨#[]⟩, .string ⟨#[]⟩, .bool false, .slice none 0 0, .slice none 0 0, .slice none 0 0, .int .i64 0, .int .i64 0], .bool false]) (by simp [results, Tryz.results10, go_sem, q0_, q1_, q2_, q3_, q4_, q5_, q6_, q7_, q8_, q9_, q10_, q11_, q12_, q13_, q14_, q15_]) rfl ⟨_, SR.out, HBF.out, Or.inr ⟨HN.out, rfl⟩⟩
  ·have HV : Hid (rctV ⟨3, ⟨zT, none, 0, none, 0⟩, s1, f1, zB⟩ = .tuple #[.string (sealB ⟨(rcL ⟨3, ⟨zT, none, 0, none, 0⟩, s1, f1, zB⟩).toArray⟩), .bool true]) := by show _ = _; unfold rctV; rw [hrb]; rfl
   have HRB : Hid (recB ⟨3, ⟨zT, none, 0, none, 0⟩, s1, f1, zB⟩ = true) := hrb
   clear hrb
   rw [HV.out] at CC
   clear HV
   obtain ⟨sb, HSB⟩ : ∃ sb, Hid (sealB ⟨(rcL ⟨3, ⟨zT, none, 0, none, 0⟩, s1, f1, zB⟩).toArray⟩ = sb) := ⟨_, rfl⟩
   rw [HSB.out] at CC
   as_aux_lemma =>
    have u0 := BX2.out.c0
    have u1 := BX2.out.c1
    have u2 := BX2.out.c2
    have u3 := BX2.out.c3
    have u4 := BX2.out.c4
    have u5 := BX2.out.c5
    have u6 := BX2.out.c6
    have u7 := BX2.out.c7
    have u8 := BX2.out.c8
    have u9 := BX2.out.c9
    have u10 := BX2.out.c10
    have u11 := BX2.out.c11
    have u12 := BX2.out.c12
    have u13 := BX2.out.c13
    have u14 := BX2.out.c14
    have u15 := BX2.out.c15
    go_wp2_with fail
    refine (CC.out _ HRw.out).mono ?_
    rintro e w5 ⟨rfl, hb⟩
    have B5 := hide (B2.out.below hb)
    have HB5 : Hid (Below w.heap.size w w5) := HB2.out.trans (hb.mono HB2.out.size)
    have BX5 := hide (BX2.out.below hb)
    have LC5 := hide (LC.out.below hb)
    have S5 : Hid (w6.heap.size ≤ w5.heap.size) := hb.size
    clear hb u0 u1 u2 u3 u4 u5 u6 u7 u8 u9 u10 u11 u12 u13 u14 u15 BX2 B2 HB2 LC HRw
    by_cases hst : sb = t
    ·have hbn : (!(sb.toList == t.toList)) = false := by rw [hst]; simp
     have HST : Hid (sealB ⟨(rcL ⟨3, ⟨zT, none, 0, none, 0⟩, s1, f1, zB⟩).toArray⟩ = t) := by show _ = _; rw [HSB.out]; exact hst
     clear hst HSB
     as_aux_lemma =>
      go_upto_region 16 with fail
      clear hbn
      refine wp_region_lit ?_
      refine wpLoad16 rfl 44 _ rfl _ Tryz.underlying44 rfl (by kernel_rfl) (by kernel_rfl) BX5.out ?_
      simp only [Act.put, List.setIfInBounds_toArray, List.set_cons_zero, List.set_cons_succ]
      refine wpStore16K (.int .i64 3) (.int .i64 0) (.int .i64 0) (.int .i64 0) (.int .i64 0) (.slice none 0 0) (.slice none 0 0) (.bool false) (.string ⟨#[]⟩) (.string s1) (.bool f1) (.slice none 0 0) (.slice none 0 0) (.slice none 0 0) (.int .i64 0) (.int .i64 0) rfl 44 _ _ rfl (by kernel_rfl) (by kernel_rfl) (by kernel_rfl) B5.out (List.forall_mem_cons.2 ⟨rfl, List.forall_mem_cons.2 ⟨rfl, List.forall_mem_cons.2 ⟨rfl, List.forall_mem_cons.2 ⟨rfl, List.forall_mem_cons.2 ⟨rfl, List.forall_mem_cons.2 ⟨rfl, List.forall_mem_cons.2 ⟨rfl, List.forall_mem_cons.2 ⟨rfl, List.forall_mem_cons.2 ⟨rfl, List.forall_mem_cons.2 ⟨rfl, List.forall_mem_cons.2 ⟨rfl, List.forall_mem_cons.2 ⟨rfl, List.forall_mem_cons.2 ⟨rfl, List.forall_mem_cons.2 ⟨rfl, List.forall_mem_cons.2 ⟨rfl, List.forall_mem_cons.2 ⟨rfl, fun _ h => by cases h⟩⟩⟩⟩⟩⟩⟩⟩⟩⟩⟩⟩⟩⟩⟩⟩) (fun WF bf zf => ?_)
      have BF := hide bf
      have HBF : Hid (Below w.heap.size w WF) := HB5.out.trans (zf.below (Nat.le_refl _) HB5.out.size)
      have LF : Hid (RcLie WF w.heap.size WF.heap.size ⟨3, ⟨zT, none, 0, none, 0⟩, s1, f1, zB⟩) := (LC5.out.zn zf (Or.inr (by have := S2.out; omega))).mono (by have := S2.out; omega) (Nat.le_trans S5.out zf.size)
      clear BX5 LC5 B5 HB5 bf zf
      go_wp2
      have q0_ := BF.out.c0
      have q1_ := BF.out.c1
      have q2_ := BF.out.c2
      have q3_ := BF.out.c3
      have q4_ := BF.out.c4
      have q5_ := BF.out.c5
      have q6_ := BF.out.c6
      have q7_ := BF.out.c7
      have q8_ := BF.out.c8
      have q9_ := BF.out.c9
      have q10_ := BF.out.c10
      have q11_ := BF.out.c11
      have q12_ := BF.out.c12
      have q13_ := BF.out.c13
      have q14_ := BF.out.c14
      have q15_ := BF.out.c15
      refine bodyPost_ret (v := .tuple #[.agg #[.int .i64 3, .int .i64 0, .int .i64 0, .int .i64 0, .int .i64 0, .slice none 0 0, .slice none 0 0, .bool false, .string ⟨#[]⟩, .string s1, .bool f1, .slice none 0 0, .slice none 0 0, .slice none 0 0, .int .i64 0, .int .i64 0], .bool true]) (by simp [results, Tryz.results10, go_sem, q0_, q1_, q2_, q3_, q4_, q5_, q6_, q7_, q8_, q9_, q10_, q11_, q12_, q13_, q14_, q15_]) rfl ⟨_, SR.out, HBF.out, Or.inl ⟨HRB.out, HST.out, rfl, LF.out⟩⟩
    ·have hbn : (!(sb.toList == t.toList)) = true := by
      rw [Bool.not_eq_true', beq_eq_false_iff_ne]
      exact fun e => hst (toList_inj e)
     have HN : Hid (¬ (recB ⟨3, ⟨zT, none, 0, none, 0⟩, s1, f1, zB⟩ = true ∧ sealB ⟨(rcL ⟨3, ⟨zT, none, 0, none, 0⟩, s1, f1, zB⟩).toArray⟩ = t)) := fun h => hst (by rw [← HSB.out]; exact h.2)
     clear hst HSB BX5 LC5 S5
     as_aux_lemma =>
      go_upto_region 15 with fail
      refine wp_region_lit ?_
      refine wpList_plain rfl fun K hK => ?_
      go_simp
      refine hK _ _ ?_
      clear hK K
      refine wpStore16K (.int .i64 0) (.int .i64 0) (.int .i64 0) (.int .i64 0) (.int .i64 0) (.slice none 0 0) (.slice none 0 0) (.bool false) (.string ⟨#[]⟩) (.string ⟨#[]⟩) (.bool false) (.slice none 0 0) (.slice none 0 0) (.slice none 0 0) (.int .i64 0) (.int .i64 0) rfl 44 _ _ rfl (by kernel_rfl) (by kernel_rfl) (by kernel_rfl) B5.out (List.forall_mem_cons.2 ⟨rfl, List.forall_mem_cons.2 ⟨rfl, List.forall_mem_cons.2 ⟨rfl, List.forall_mem_cons.2 ⟨rfl, List.forall_mem_cons.2 ⟨rfl, List.forall_mem_cons.2 ⟨rfl, List.forall_mem_cons.2 ⟨rfl, List.forall_mem_cons.2 ⟨rfl, List.forall_mem_cons.2 ⟨rfl, List.forall_mem_cons.2 ⟨rfl, List.forall_mem_cons.2 ⟨rfl, List.forall_mem_cons.2 ⟨rfl, List.forall_mem_cons.2 ⟨rfl, List.forall_mem_cons.2 ⟨rfl, List.forall_mem_cons.2 ⟨rfl, List.forall_mem_cons.2 ⟨rfl, fun _ h => by cases h⟩⟩⟩⟩⟩⟩⟩⟩⟩⟩⟩⟩⟩⟩⟩⟩) (fun WF bf zf => ?_)
      have BF := hide bf
      have HBF : Hid (Below w.heap.size w WF) := HB5.out.trans (zf.below (Nat.le_refl _) HB5.out.size)
      clear B5 HB5 bf zf
      go_wp2
      have q0_ := BF.out.c0
      have q1_ := BF.out.c1
      have q2_ := BF.out.c2
      have q3_ := BF.out.c3
      have q4_ := BF.out.c4
      have q5_ := BF.out.c5
      have q6_ := BF.out.c6
      have q7_ := BF.out.c7
      have q8_ := BF.out.c8
      have q9_ := BF.out.c9
      have q10_ := BF.out.c10
      have q11_ := BF.out.c11
      have q12_ := BF.out.c12
      have q13_ := BF.out.c13
      have q14_ := BF.out.c14
      have q15_ := BF.out.c15
      refine bodyPost_ret (v := .tuple #[.agg #[.int .i64 0, .int .i64 0, .int .i64 0, .int .i64 0, .int .i64 0, .slice none 0 0, .slice none 0 0, .bool false, .string ⟨#[]⟩, .string ⟨#[]⟩, .bool false, .slice none 0 0, .slice none 0 0, .slice none 0 0, .int .i64 0, .int .i64 0], .bool false]) (by simp [results, Tryz.results10, go_sem, q0_, q1_, q2_, q3_, q4_, q5_, q6_, q7_, q8_, q9_, q10_, q11_, q12_, q13_, q14_, q15_]) rfl ⟨_, SR.out, HBF.out, Or.inr ⟨HN.out, rfl⟩⟩

end Go.Proofs.YtpnnncfbodfnhaaGreatDoor

namespace Go.Proofs.YtpnnncfbodfnhaaGreatDoor
open Go.RowKit
open KM
open VM
attribute [local go_sem ↓] Go.wp_at_zero Go.wp_at_succ

theorem bfit_of {b : Bb} (h : sbB b = true) : BFit b := by
 have hm := base_small h
 refine ⟨Nat.le_trans hm.vl (by omega), fun x hx => ?_, ⟨?_, fun t ht => ?_⟩, ⟨?_, fun t ht => ?_⟩⟩
 ·have := hm.vs x hx; unfold VSm at this; omega
 ·rw [txs_len]; exact Nat.le_trans hm.pl (by omega)
 ·obtain ⟨y, hy, rfl⟩ := List.mem_map.1 ht
  exact small_fit (right_small (hm.ps y hy))
 ·rw [txs_len]; exact Nat.le_trans hm.ql (by omega)
 ·obtain ⟨y, hy, rfl⟩ := List.mem_map.1 ht
  exact small_fit (right_small (hm.qs y hy))
theorem zR_fit : RcFit zR := ⟨zT_fit, by show 0 ≤ _; omega, zB_fit⟩
theorem rec_fit {s : Rc} (h : recB s = true) : RcFit s := by
 rcases rec_full h with (⟨_, hs, ht⟩ | ⟨_, hs, ht⟩) | ⟨_, hs, ht⟩ | ⟨_, hs, ht⟩
 ·exact hs.symm.fit ⟨small_fit (right_small ht), by show 0 ≤ _; omega, zB_fit⟩
 ·exact hs.symm.fit ⟨small_fit (right_small ht), by show 0 ≤ _; omega, zB_fit⟩
 ·exact hs.symm.fit ⟨zT_fit, by have := key_small ht; show s.nm.size ≤ _; omega, zB_fit⟩
 ·exact hs.symm.fit ⟨zT_fit, by show 0 ≤ _; omega, bfit_of ht⟩
theorem ansR_fit {x : ByteArray} {s : Rc} {o : Bool} (h : ansR x = (s, o)) : RcFit s := by
 unfold ansR at h
 split at h
 ·cases h; exact zR_fit
 ·rename_i a ha
  split at h
  ·cases h; exact zR_fit
  ·cases h
   obtain ⟨_, _, _, k, _⟩ := rRc_rec (s := a.1) (q := a.2) ha
   exact rec_fit k
theorem split_ba (t : ByteArray) (n : Nat) (hn : t.size = n + 4) : t = t.extract 0 n ++ t.extract n (n + 4) := by
 apply ByteArray.ext
 apply Array.toList_inj.1
 have hl : (Lx t).length = n + 4 := by rw [lx_len]; exact hn
 rw [ByteArray.data_append, Array.toList_append, ext_data, ext_data, List.drop_zero, Nat.sub_zero, show n + 4 - n = 4 by omega]
 rw [List.take_of_length_le (l := (Lx t).drop n) (by rw [List.length_drop]; omega), List.take_append_drop]

set_option maxRecDepth 100000 in
set_option maxHeartbeats 2000000 in
theorem rc_both (t : ByteArray) (hs : t.size ≤ 1048576) : ∃ (DD : Rc) (bo : Bool), RcFit DD ∧ (∀ W : World, Tab W → Calls Tryz.prog 11 #[.string t] W fun e w' => ∃ d : Rc, e = .returned (.tuple #[.agg #[.int .i64 d.k, .int .i64 d.t.t.id, .int .i64 d.t.t.st, .int .i64 d.t.t.snap, .int .i64 d.t.t.cs, .slice d.t.ra d.t.t.rs.length d.t.rc, .slice d.t.wa d.t.t.ws.length d.t.wc, .bool d.t.t.out, .string d.t.t.nm, .string d.nm, .bool d.yes, .slice d.b.va d.b.vs.length d.b.vc, .slice d.b.pa d.b.ps.length d.b.pc, .slice d.b.qa d.b.qs.length d.b.qc, .int .i64 d.b.cs, .int .i64 d.b.nx], .bool bo]) ∧ RcSame DD d ∧ RcLie w' W.heap.size w'.heap.size d ∧ Below W.heap.size W w') ∧ (∀ W : World, Calls Tryz.prog 10 #[.string t] W fun e w' => ∃ d : Rc, e = .returned (.tuple #[.agg #[.int .i64 d.k, .int .i64 d.t.t.id, .int .i64 d.t.t.st, .int .i64 d.t.t.snap, .int .i64 d.t.t.cs, .slice d.t.ra d.t.t.rs.length d.t.rc, .slice d.t.wa d.t.t.ws.length d.t.wc, .bool d.t.t.out, .string d.t.t.nm, .string d.nm, .bool d.yes, .slice d.b.va d.b.vs.length d.b.vc, .slice d.b.pa d.b.ps.length d.b.pc, .slice d.b.qa d.b.qs.length d.b.qc, .int .i64 d.b.cs, .int .i64 d.b.nx], .bool bo]) ∧ RcSame DD d ∧ RcLie w' W.heap.size w'.heap.size d ∧ Below W.heap.size W w') := by
 have no : (∀ W : World, Tab W → Calls Tryz.prog 35 #[.string t] W fun e w' => e = .returned (.tuple #[.string ⟨#[]⟩, .bool false]) ∧ Below W.heap.size W w') → (∀ W : World, Calls Tryz.prog 30 #[.string t] W fun e w' => e = .returned (.tuple #[.string ⟨#[]⟩, .bool false]) ∧ Below W.heap.size W w') → ∃ (DD : Rc) (bo : Bool), RcFit DD ∧ (∀ W : World, Tab W → Calls Tryz.prog 11 #[.string t] W fun e w' => ∃ d : Rc, e = .returned (.tuple #[.agg #[.int .i64 d.k, .int .i64 d.t.t.id, .int .i64 d.t.t.st, .int .i64 d.t.t.snap, .int .i64 d.t.t.cs, .slice d.t.ra d.t.t.rs.length d.t.rc, .slice d.t.wa d.t.t.ws.length d.t.wc, .bool d.t.t.out, .string d.t.t.nm, .string d.nm, .bool d.yes, .slice d.b.va d.b.vs.length d.b.vc, .slice d.b.pa d.b.ps.length d.b.pc, .slice d.b.qa d.b.qs.length d.b.qc, .int .i64 d.b.cs, .int .i64 d.b.nx], .bool bo]) ∧ RcSame DD d ∧ RcLie w' W.heap.size w'.heap.size d ∧ Below W.heap.size W w') ∧ (∀ W : World, Calls Tryz.prog 10 #[.string t] W fun e w' => ∃ d : Rc, e = .returned (.tuple #[.agg #[.int .i64 d.k, .int .i64 d.t.t.id, .int .i64 d.t.t.st, .int .i64 d.t.t.snap, .int .i64 d.t.t.cs, .slice d.t.ra d.t.t.rs.length d.t.rc, .slice d.t.wa d.t.t.ws.length d.t.wc, .bool d.t.t.out, .string d.t.t.nm, .string d.nm, .bool d.yes, .slice d.b.va d.b.vs.length d.b.vc, .slice d.b.pa d.b.ps.length d.b.pc, .slice d.b.qa d.b.qs.length d.b.qc, .int .i64 d.b.cs, .int .i64 d.b.nx], .bool bo]) ∧ RcSame DD d ∧ RcLie w' W.heap.size w'.heap.size d ∧ Below W.heap.size W w') := fun h1 h2 => by
  refine ⟨zR, false, zR_fit, fun W hT => ?_, fun W => ?_⟩
  ·refine (irr_no t W (hide fun W' hb => h1 W' (hT.below hb))).mono ?_
   rintro e w' ⟨rfl, hb⟩
   exact ⟨zR, rfl, zRsame, zRlie _ _ _ hb.size, hb⟩
  ·refine (srr_no t W (hide fun W' _ => h2 W')).mono ?_
   rintro e w' ⟨rfl, hb⟩
   exact ⟨zR, rfl, zRsame, zRlie _ _ _ hb.size, hb⟩
 by_cases hb : t.size < 4 ∨ 20004 < t.size
 ·refine no (fun W _ => (iuns_no t hb hs W).mono ?_) (fun W => suns_no t hb hs W)
  rintro e w' ⟨rfl, rfl⟩
  exact ⟨rfl, belowRefl _⟩
 obtain ⟨n, hn, hn2⟩ : ∃ n, t.size = n + 4 ∧ n ≤ 20000 := ⟨t.size - 4, by omega, by omega⟩
 cases hq : ((t.extract n (n + 4)).toList == (⟨(SM.four (SM.sum 4294967295 (t.extract 0 n).data.toList)).toArray⟩ : ByteArray).toList)
 ·have hq' := hq
  rw [Bool.beq_comm] at hq'
  exact no (fun W hT => iuns_bad t n hn hn2 hq' W hT) (fun W => suns_bad t n hn hn2 hq W)
 have hq' := hq
 rw [Bool.beq_comm] at hq'
 obtain ⟨u, hu⟩ : ∃ u, u = t.extract 0 n := ⟨_, rfl⟩
 have ht : t = sealB u := by
  have e := toList_inj (eq_of_beq hq)
  have k := split_ba t n hn
  rw [e] at k
  rw [hu]
  exact k
 have hz : u.size ≤ 20000 := by rw [hu, ByteArray.size_extract]; omega
 obtain ⟨DD, bo, ha⟩ : ∃ DD bo, ansR u = (DD, bo) := ⟨_, _, rfl⟩
 refine ⟨DD, bo, ansR_fit ha, fun W hT => ?_, fun W => ?_⟩
 ·refine (irr t u (by omega) DD bo ha W (hide fun x rb ob g p h1 h2 w h3 h4 h5 => iwholer x rb ob g p h1 h2 w h3 h4 h5) (hide fun W' hb => ?_)).mono ?_
  ·have k := iuns_yes t n hn hn2 hq' W' (hT.below hb)
   rw [← hu] at k
   exact k
  ·rintro e w' ⟨c, rfl, h1, h2, h3⟩
   exact ⟨c, rfl, h1, h2, h3⟩
 ·have CU : Hid (∀ W', Below W.heap.size W W' → Calls Tryz.prog 30 #[.string t] W' fun e w' => e = .returned (.tuple #[.string u, .bool true]) ∧ Below W'.heap.size W' w') := fun W' _ => by
   have k := suns_yes t n hn hn2 hq W'
   rw [← hu] at k
   exact k
  by_cases h0 : u.size = 0
  ·have e : u = ⟨#[]⟩ := ByteArray.ext (Array.eq_empty_of_size_eq_zero h0)
   rw [ansR_nil h0] at ha
   cases ha
   rw [e] at CU
   refine (srr_nil t W CU).mono ?_
   rintro e w' ⟨rfl, hb⟩
   exact ⟨zR, rfl, zRsame, zRlie _ _ _ hb.size, hb⟩
  ·have hp : 0 < u.size := by omega
   have key : Calls Tryz.prog 10 #[.string t] W fun e w' => ∃ r, sRc u u[0].toNat r ∧ Below W.heap.size W w' ∧ ((recB r = true ∧ sealB ⟨(rcL r).toArray⟩ = t ∧ e = .returned (.tuple #[.agg #[.int .i64 r.k, .int .i64 r.t.t.id, .int .i64 r.t.t.st, .int .i64 r.t.t.snap, .int .i64 r.t.t.cs, .slice r.t.ra r.t.t.rs.length r.t.rc, .slice r.t.wa r.t.t.ws.length r.t.wc, .bool r.t.t.out, .string r.t.t.nm, .string r.nm, .bool r.yes, .slice r.b.va r.b.vs.length r.b.vc, .slice r.b.pa r.b.ps.length r.b.pc, .slice r.b.qa r.b.qs.length r.b.qc, .int .i64 r.b.cs, .int .i64 r.b.nx], .bool true]) ∧ RcLie w' W.heap.size w'.heap.size r) ∨ (¬ (recB r = true ∧ sealB ⟨(rcL r).toArray⟩ = t) ∧ e = .returned (.tuple #[.agg #[.int .i64 0, .int .i64 0, .int .i64 0, .int .i64 0, .int .i64 0, .slice none 0 0, .slice none 0 0, .bool false, .string ⟨#[]⟩, .string ⟨#[]⟩, .bool false, .slice none 0 0, .slice none 0 0, .slice none 0 0, .int .i64 0, .int .i64 0], .bool false]))) := by
    by_cases k3 : u[0].toNat = 3
    ·exact srrE t u _ (by omega) hp k3 k3 W CU
    by_cases k4 : u[0].toNat = 4
    ·exact srrB t u _ (by omega) hp k4 k4 W CU
    exact srrT t u _ (by omega) hp rfl k3 k4 W CU
   have hh : (Lx u).head? = some (UInt8.ofNat u[0].toNat) := by
    rw [List.head?_eq_getElem?, at_byte u 0 hp]
    simp
   refine key.mono ?_
   rintro e w' ⟨r, hr, hb, ⟨h1, h2, rfl, hl⟩ | ⟨hno, rfl⟩⟩
   ·have e2 : (⟨(rcL r).toArray⟩ : ByteArray) = u := seal_inj (h2.trans ht)
    have e3 : Lx u = rcL r := by rw [← e2]
    obtain ⟨s, hs1, hs2⟩ := rr_yes h1 e3
    rw [ha] at hs1
    cases hs1
    exact ⟨r, rfl, hs2.symm, hl, hb⟩
   ·have k := rr_no (sRc_of hh (UInt8.toNat_lt _) hr) (fun h => hno ⟨h.1, by rw [ht, ← h.2]⟩)
    rw [ha] at k
    cases k
    exact ⟨zR, rfl, zRsame, zRlie _ _ _ hb.size, hb⟩

end Go.Proofs.YtpnnncfbodfnhaaGreatDoor
