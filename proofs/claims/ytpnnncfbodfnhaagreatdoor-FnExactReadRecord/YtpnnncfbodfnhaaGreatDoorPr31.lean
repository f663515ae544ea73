/- What a textReader does: a record. -/
import Derived.Test.YtpnnncfbodfnhaaGreatDoorPr29
import Derived.Test.YtpnnncfbodfnhaaGreatDoorPr30
import Derived.Test.YtpnnncfbodfnhaaGreatDoorPr23
import Derived.Defers
import Derived.Recover
import Derived.Laws.Pointers
namespace Go.Proofs.YtpnnncfbodfnhaaGreatDoor
open Go.RowKit
open KM
open VM
attribute [local go_sem ↓] Go.wp_at_zero Go.wp_at_succ

set_option maxRecDepth 100000 in
set_option maxHeartbeats 4000000 in
theorem irc4 (x : ByteArray) (g : Nat) (p : Int) (hs : x.size ≤ 1048576) (q1 : Nat) (hn : rN x p = some (4, q1)) (w : World) (hd : Rd w g x p) :
  Calls Tryz.prog 38 #[.pointer (some ⟨g, 0, none⟩)] w fun e w' => w.grownBy w' (some g) ∧ ((e = .panicked PAN ∧ rRc x p = none) ∨ ∃ s q c, rRc x p = some (s, q) ∧ q ≤ x.size ∧ e = .returned (.agg #[.int .i64 c.k, .int .i64 c.t.t.id, .int .i64 c.t.t.st, .int .i64 c.t.t.snap, .int .i64 c.t.t.cs, .slice c.t.ra c.t.t.rs.length c.t.rc, .slice c.t.wa c.t.t.ws.length c.t.wc, .bool c.t.t.out, .string c.t.t.nm, .string c.nm, .bool c.yes, .slice c.b.va c.b.vs.length c.b.vc, .slice c.b.pa c.b.ps.length c.b.pc, .slice c.b.qa c.b.qs.length c.b.qc, .int .i64 c.b.cs, .int .i64 c.b.nx]) ∧ RcSame s c ∧ RcLie w' w.heap.size w'.heap.size c ∧ Rd w' g x (q : Int)) := by
 have hgl := hd.lt
 have HN := hide hn
 have HD0 : Hid (Rd (w.alloc (.cells #[.int .i64 0, .int .i64 0, .int .i64 0, .int .i64 0, .int .i64 0, .slice none 0 0, .slice none 0 0, .bool false, .string ⟨#[]⟩, .string ⟨#[]⟩, .bool false, .slice none 0 0, .slice none 0 0, .slice none 0 0, .int .i64 0, .int .i64 0] 44)) g x p) := hd.alloc _
 have BR0 : Hid (Bx (w.alloc (.cells #[.int .i64 0, .int .i64 0, .int .i64 0, .int .i64 0, .int .i64 0, .slice none 0 0, .slice none 0 0, .bool false, .string ⟨#[]⟩, .string ⟨#[]⟩, .bool false, .slice none 0 0, .slice none 0 0, .slice none 0 0, .int .i64 0, .int .i64 0] 44)) w.heap.size [.int .i64 0, .int .i64 0, .int .i64 0, .int .i64 0, .int .i64 0, .slice none 0 0, .slice none 0 0, .bool false, .string ⟨#[]⟩, .string ⟨#[]⟩, .bool false, .slice none 0 0, .slice none 0 0, .slice none 0 0, .int .i64 0, .int .i64 0]) := Bx.new w [.int .i64 0, .int .i64 0, .int .i64 0, .int .i64 0, .int .i64 0, .slice none 0 0, .slice none 0 0, .bool false, .string ⟨#[]⟩, .string ⟨#[]⟩, .bool false, .slice none 0 0, .slice none 0 0, .slice none 0 0, .int .i64 0, .int .i64 0] 44
 have HG0 : Hid (w.grownBy (w.alloc (.cells #[.int .i64 0, .int .i64 0, .int .i64 0, .int .i64 0, .int .i64 0, .slice none 0 0, .slice none 0 0, .bool false, .string ⟨#[]⟩, .string ⟨#[]⟩, .bool false, .slice none 0 0, .slice none 0 0, .slice none 0 0, .int .i64 0, .int .i64 0] 44)) (some g)) := grown_below _ ((belowRefl w).alloc (Nat.le_refl _) _)
 have hgz : w.heap.size ≠ g := by omega
 clear hd hn
 go_enter Tryz.func38, Tryz.ntmps38
 go_wp2_with fail
 generalize hWW : (w.alloc (.cells #[.int .i64 0, .int .i64 0, .int .i64 0, .int .i64 0, .int .i64 0, .slice none 0 0, .slice none 0 0, .bool false, .string ⟨#[]⟩, .string ⟨#[]⟩, .bool false, .slice none 0 0, .slice none 0 0, .slice none 0 0, .int .i64 0, .int .i64 0] 44)) = W0 at HD0 BR0 HG0 ⊢
 have SZ : Hid (W0.heap.size = w.heap.size + 1) := by show _ = _; rw [← hWW]; exact World.size_alloc _ _
 clear hWW
 have K0 : Hid (w.heap.size + 1 ≤ W0.heap.size) := by show _ ≤ _; rw [SZ.out]; exact Nat.le_refl _
 clear SZ
 refine (inum_yes x g _ hs 4 q1 HN.out _ HD0.out).mono ?_
 rintro e w1 ⟨rfl, hd, hg⟩
 have HD1 := hide hd
 have BR1 := hide (BR0.out.grown hg hgz)
 have HG1 := hide (grown_trans HG0.out hg)
 have K1 : Hid (w.heap.size + 1 ≤ w1.heap.size) := Nat.le_trans K0.out hg.size
 clear hd hg HD0 BR0 HG0
 have hb1 : Below w1.heap.size w1 (w1.alloc (.cells #[.int .i64 4, .int .i64 0, .int .i64 0, .int .i64 0, .int .i64 0, .slice none 0 0, .slice none 0 0, .bool false, .string ⟨#[]⟩, .string ⟨#[]⟩, .bool false, .slice none 0 0, .slice none 0 0, .slice none 0 0, .int .i64 0, .int .i64 0] 44)) := (belowRefl w1).alloc (Nat.le_refl _) _
 have HD2 : Hid (Rd (w1.alloc (.cells #[.int .i64 4, .int .i64 0, .int .i64 0, .int .i64 0, .int .i64 0, .slice none 0 0, .slice none 0 0, .bool false, .string ⟨#[]⟩, .string ⟨#[]⟩, .bool false, .slice none 0 0, .slice none 0 0, .slice none 0 0, .int .i64 0, .int .i64 0] 44)) g x (q1 : Int)) := HD1.out.below hb1
 have BR2 : Hid (Bx (w1.alloc (.cells #[.int .i64 4, .int .i64 0, .int .i64 0, .int .i64 0, .int .i64 0, .slice none 0 0, .slice none 0 0, .bool false, .string ⟨#[]⟩, .string ⟨#[]⟩, .bool false, .slice none 0 0, .slice none 0 0, .slice none 0 0, .int .i64 0, .int .i64 0] 44)) w.heap.size [.int .i64 0, .int .i64 0, .int .i64 0, .int .i64 0, .int .i64 0, .slice none 0 0, .slice none 0 0, .bool false, .string ⟨#[]⟩, .string ⟨#[]⟩, .bool false, .slice none 0 0, .slice none 0 0, .slice none 0 0, .int .i64 0, .int .i64 0]) := BR1.out.below hb1
 have HG2 : Hid (w.grownBy (w1.alloc (.cells #[.int .i64 4, .int .i64 0, .int .i64 0, .int .i64 0, .int .i64 0, .slice none 0 0, .slice none 0 0, .bool false, .string ⟨#[]⟩, .string ⟨#[]⟩, .bool false, .slice none 0 0, .slice none 0 0, .slice none 0 0, .int .i64 0, .int .i64 0] 44)) (some g)) := grown_trans HG1.out (grown_below _ hb1)
 have BX2 : Hid (Bx (w1.alloc (.cells #[.int .i64 4, .int .i64 0, .int .i64 0, .int .i64 0, .int .i64 0, .slice none 0 0, .slice none 0 0, .bool false, .string ⟨#[]⟩, .string ⟨#[]⟩, .bool false, .slice none 0 0, .slice none 0 0, .slice none 0 0, .int .i64 0, .int .i64 0] 44)) w1.heap.size [.int .i64 4, .int .i64 0, .int .i64 0, .int .i64 0, .int .i64 0, .slice none 0 0, .slice none 0 0, .bool false, .string ⟨#[]⟩, .string ⟨#[]⟩, .bool false, .slice none 0 0, .slice none 0 0, .slice none 0 0, .int .i64 0, .int .i64 0]) := Bx.new w1 [.int .i64 4, .int .i64 0, .int .i64 0, .int .i64 0, .int .i64 0, .slice none 0 0, .slice none 0 0, .bool false, .string ⟨#[]⟩, .string ⟨#[]⟩, .bool false, .slice none 0 0, .slice none 0 0, .slice none 0 0, .int .i64 0, .int .i64 0] 44
 have S2 : Hid (w1.heap.size + 1 ≤ (w1.alloc (.cells #[.int .i64 4, .int .i64 0, .int .i64 0, .int .i64 0, .int .i64 0, .slice none 0 0, .slice none 0 0, .bool false, .string ⟨#[]⟩, .string ⟨#[]⟩, .bool false, .slice none 0 0, .slice none 0 0, .slice none 0 0, .int .i64 0, .int .i64 0] 44)).heap.size) := by show _ ≤ _; rw [World.size_alloc]; exact Nat.le_refl _
 clear hb1 HD1 BR1 HG1
 have u0 := BX2.out.c0
 go_wp2_with fail
 generalize hWW : (w1.alloc (.cells #[.int .i64 4, .int .i64 0, .int .i64 0, .int .i64 0, .int .i64 0, .slice none 0 0, .slice none 0 0, .bool false, .string ⟨#[]⟩, .string ⟨#[]⟩, .bool false, .slice none 0 0, .slice none 0 0, .slice none 0 0, .int .i64 0, .int .i64 0] 44)) = W1 at *
 clear hWW u0
 have hne : w1.heap.size ≠ g := by have := hgl; have := K1.out; omega
 have hne2 : w1.heap.size ≠ w.heap.size := by have := K1.out; omega
 have SL : Hid (w1.heap.size + 1 ≤ W1.heap.size) := S2.out
 refine (ibs x g _ hs _ HD2.out).mono ?_
 rintro e w2 ⟨hg, ⟨rfl, hx⟩ | ⟨s4, q2, c4, hx, hq, rfl, hsm, hl, hd⟩⟩
 ·have HX : Hid (rRc x p = none) := by show _ = _; simp only [rRc, HN.out, hx]; rfl
  have HGx := hide (grown_trans HG2.out hg)
  clear hg hx
  go_wp2
  exact ⟨rfl, HGx.out, Or.inl ⟨rfl, HX.out⟩⟩
 have HT : Hid (rRc x p = if recB (rcB s4) = true then some (rcB s4, q2) else none) := by show _ = _; simp only [rRc, HN.out, hx]; rfl
 have HTr : Hid (sbB s4 = true) := rBs_q hx
 have SM : Hid (RcSame (rcB s4) ⟨4, ⟨zT, none, 0, none, 0⟩, ⟨#[]⟩, false, c4⟩) := ⟨rfl, rfl, rfl, rfl, hsm⟩
 have HSM := hide hsm
 have HQ := hide hq
 have HXB := hide hx
 have L2 : Hid (BLie w2 W1.heap.size w2.heap.size c4) := hl
 have NO := hide hl.nones
 have Z2 : Hid (W1.heap.size ≤ w2.heap.size) := hg.size
 replace BR2 := hide (BR2.out.grown hg hgz)
 replace BX2 := hide (BX2.out.grown hg hne)
 replace HG2 := hide (grown_trans HG2.out hg)
 replace HD2 := hide hd
 clear hx hq hl hd hg hsm
 have u11 := BX2.out.c11
 have fu11 := BX2.out.fz 11
 have u12 := BX2.out.c12
 have fu12 := BX2.out.fz 12
 have u13 := BX2.out.c13
 have fu13 := BX2.out.fz 13
 have u14 := BX2.out.c14
 have fu14 := BX2.out.fz 14
 have u15 := BX2.out.c15
 have fu15 := BX2.out.fz 15
 go_upto_region 10 with fail
 clear u11 fu11 u12 fu12 u13 fu13 u14 fu14 u15 fu15
 replace BR2 : Hid (Bx (((((w2.setCell ⟨w1.heap.size, 11, none⟩ (.slice c4.va c4.vs.length c4.vc)).setCell ⟨w1.heap.size, 12, none⟩ (.slice c4.pa c4.ps.length c4.pc)).setCell ⟨w1.heap.size, 13, none⟩ (.slice c4.qa c4.qs.length c4.qc)).setCell ⟨w1.heap.size, 14, none⟩ (.int .i64 c4.cs)).setCell ⟨w1.heap.size, 15, none⟩ (.int .i64 c4.nx)) w.heap.size [.int .i64 0, .int .i64 0, .int .i64 0, .int .i64 0, .int .i64 0, .slice none 0 0, .slice none 0 0, .bool false, .string ⟨#[]⟩, .string ⟨#[]⟩, .bool false, .slice none 0 0, .slice none 0 0, .slice none 0 0, .int .i64 0, .int .i64 0]) := ((((BR2.out.setO (p := ⟨w1.heap.size, 11, none⟩) hne2 _).setO (p := ⟨w1.heap.size, 12, none⟩) hne2 _).setO (p := ⟨w1.heap.size, 13, none⟩) hne2 _).setO (p := ⟨w1.heap.size, 14, none⟩) hne2 _).setO (p := ⟨w1.heap.size, 15, none⟩) hne2 _
 replace BX2 : Hid (Bx (((((w2.setCell ⟨w1.heap.size, 11, none⟩ (.slice c4.va c4.vs.length c4.vc)).setCell ⟨w1.heap.size, 12, none⟩ (.slice c4.pa c4.ps.length c4.pc)).setCell ⟨w1.heap.size, 13, none⟩ (.slice c4.qa c4.qs.length c4.qc)).setCell ⟨w1.heap.size, 14, none⟩ (.int .i64 c4.cs)).setCell ⟨w1.heap.size, 15, none⟩ (.int .i64 c4.nx)) w1.heap.size [.int .i64 4, .int .i64 0, .int .i64 0, .int .i64 0, .int .i64 0, .slice none 0 0, .slice none 0 0, .bool false, .string ⟨#[]⟩, .string ⟨#[]⟩, .bool false, .slice c4.va c4.vs.length c4.vc, .slice c4.pa c4.ps.length c4.pc, .slice c4.qa c4.qs.length c4.qc, .int .i64 c4.cs, .int .i64 c4.nx]) := ((((BX2.out.set 11 _).set 12 _).set 13 _).set 14 _).set 15 _
 replace HD2 : Hid (Rd (((((w2.setCell ⟨w1.heap.size, 11, none⟩ (.slice c4.va c4.vs.length c4.vc)).setCell ⟨w1.heap.size, 12, none⟩ (.slice c4.pa c4.ps.length c4.pc)).setCell ⟨w1.heap.size, 13, none⟩ (.slice c4.qa c4.qs.length c4.qc)).setCell ⟨w1.heap.size, 14, none⟩ (.int .i64 c4.cs)).setCell ⟨w1.heap.size, 15, none⟩ (.int .i64 c4.nx)) g x (q2 : Int)) := ((((HD2.out.setO (p := ⟨w1.heap.size, 11, none⟩) hne _).setO (p := ⟨w1.heap.size, 12, none⟩) hne _).setO (p := ⟨w1.heap.size, 13, none⟩) hne _).setO (p := ⟨w1.heap.size, 14, none⟩) hne _).setO (p := ⟨w1.heap.size, 15, none⟩) hne _
 replace HG2 : Hid (w.grownBy (((((w2.setCell ⟨w1.heap.size, 11, none⟩ (.slice c4.va c4.vs.length c4.vc)).setCell ⟨w1.heap.size, 12, none⟩ (.slice c4.pa c4.ps.length c4.pc)).setCell ⟨w1.heap.size, 13, none⟩ (.slice c4.qa c4.qs.length c4.qc)).setCell ⟨w1.heap.size, 14, none⟩ (.int .i64 c4.cs)).setCell ⟨w1.heap.size, 15, none⟩ (.int .i64 c4.nx)) (some g)) := grown_belowB HG2.out ((((((Below.refl w.heap.size w2).setCell (p := ⟨w1.heap.size, 11, none⟩) (by have := K1.out; show w.heap.size ≤ w1.heap.size; omega) _).setCell (p := ⟨w1.heap.size, 12, none⟩) (by have := K1.out; show w.heap.size ≤ w1.heap.size; omega) _).setCell (p := ⟨w1.heap.size, 13, none⟩) (by have := K1.out; show w.heap.size ≤ w1.heap.size; omega) _).setCell (p := ⟨w1.heap.size, 14, none⟩) (by have := K1.out; show w.heap.size ≤ w1.heap.size; omega) _).setCell (p := ⟨w1.heap.size, 15, none⟩) (by have := K1.out; show w.heap.size ≤ w1.heap.size; omega) _) (Nat.le_refl _)
 replace L2 : Hid (BLie (((((w2.setCell ⟨w1.heap.size, 11, none⟩ (.slice c4.va c4.vs.length c4.vc)).setCell ⟨w1.heap.size, 12, none⟩ (.slice c4.pa c4.ps.length c4.pc)).setCell ⟨w1.heap.size, 13, none⟩ (.slice c4.qa c4.qs.length c4.qc)).setCell ⟨w1.heap.size, 14, none⟩ (.int .i64 c4.cs)).setCell ⟨w1.heap.size, 15, none⟩ (.int .i64 c4.nx)) W1.heap.size w2.heap.size c4) := ((((L2.out.set (a := ⟨w1.heap.size, 11, none⟩) (by have := SL.out; show w1.heap.size < _; omega) _).set (a := ⟨w1.heap.size, 12, none⟩) (by have := SL.out; show w1.heap.size < _; omega) _).set (a := ⟨w1.heap.size, 13, none⟩) (by have := SL.out; show w1.heap.size < _; omega) _).set (a := ⟨w1.heap.size, 14, none⟩) (by have := SL.out; show w1.heap.size < _; omega) _).set (a := ⟨w1.heap.size, 15, none⟩) (by have := SL.out; show w1.heap.size < _; omega) _
 have Z3 : Hid (w2.heap.size ≤ (((((w2.setCell ⟨w1.heap.size, 11, none⟩ (.slice c4.va c4.vs.length c4.vc)).setCell ⟨w1.heap.size, 12, none⟩ (.slice c4.pa c4.ps.length c4.pc)).setCell ⟨w1.heap.size, 13, none⟩ (.slice c4.qa c4.qs.length c4.qc)).setCell ⟨w1.heap.size, 14, none⟩ (.int .i64 c4.cs)).setCell ⟨w1.heap.size, 15, none⟩ (.int .i64 c4.nx)).heap.size) := by show _ ≤ _; simp [World.setCell]
 generalize (((((w2.setCell ⟨w1.heap.size, 11, none⟩ (.slice c4.va c4.vs.length c4.vc)).setCell ⟨w1.heap.size, 12, none⟩ (.slice c4.pa c4.ps.length c4.pc)).setCell ⟨w1.heap.size, 13, none⟩ (.slice c4.qa c4.qs.length c4.qc)).setCell ⟨w1.heap.size, 14, none⟩ (.int .i64 c4.cs)).setCell ⟨w1.heap.size, 15, none⟩ (.int .i64 c4.nx)) = w3 at *
 have LC : Hid (RcLie w3 W1.heap.size w3.heap.size ⟨4, ⟨zT, none, 0, none, 0⟩, ⟨#[]⟩, false, c4⟩) := ⟨W1.heap.size, Nat.le_refl _, Nat.le_trans Z2.out Z3.out, zlie _ _ _ (Nat.le_refl _), L2.out.mono (Nat.le_refl _) Z3.out⟩
 have FT : Hid (RcFit ⟨4, ⟨zT, none, 0, none, 0⟩, ⟨#[]⟩, false, c4⟩) := ⟨zT_fit, by show 0 ≤ _; omega, HSM.out.fit (rBs_fit (x := x) (p := (q1 : Int)) (q := q2) (bo := true) (by rw [HXB.out]; rfl))⟩
 as_aux_lemma =>
  have C1 : Hid (∀ W, RcRows W ⟨4, ⟨zT, none, 0, none, 0⟩, ⟨#[]⟩, false, c4⟩ → Calls Tryz.prog 81 #[.agg #[.int .i64 4, .int .i64 0, .int .i64 0, .int .i64 0, .int .i64 0, .slice none 0 0, .slice none 0 0, .bool false, .string ⟨#[]⟩, .string ⟨#[]⟩, .bool false, .slice c4.va c4.vs.length c4.vc, .slice c4.pa c4.ps.length c4.pc, .slice c4.qa c4.qs.length c4.qc, .int .i64 c4.cs, .int .i64 c4.nx]] W fun e w' => e = .returned (.bool (recB (rcB s4))) ∧ Below W.heap.size W w') := fun W h => by
   have k := irec ⟨4, ⟨zT, none, 0, none, 0⟩, ⟨#[]⟩, false, c4⟩ FT.out NO.out.1 NO.out.2 W h
   rw [rec_same SM.out] at k
   exact k
  have HRw : Hid (RcRows w3 ⟨4, ⟨zT, none, 0, none, 0⟩, ⟨#[]⟩, false, c4⟩) := LC.out.rows
  have u0 := BX2.out.c0
  have u1 := BX2.out.c1
  have u2 := BX2.out.c2
  have u3 := BX2.out.c3
  have u4 := BX2.out.c4
  have u5 := BX2.out.c5
  have u6 := BX2.out.c6
  have u7 := BX2.out.c7
  have u8 := BX2.out.c8
  have u9 := BX2.out.c9
  have u10 := BX2.out.c10
  have u11 := BX2.out.c11
  have u12 := BX2.out.c12
  have u13 := BX2.out.c13
  have u14 := BX2.out.c14
  have u15 := BX2.out.c15
  go_wp2_with fail
  refine (C1.out _ HRw.out).mono ?_
  rintro e wA ⟨rfl, hb⟩
  have LA := hide (LC.out.below hb)
  have HDA := hide (HD2.out.below hb)
  have BRA := hide (BR2.out.below hb)
  have HGA := hide (grown_trans HG2.out (grown_below (some g) hb))
  have BTA := hide (BX2.out.below hb)
  have SA : Hid (w3.heap.size ≤ wA.heap.size) := hb.size
  clear hb u0 u1 u2 u3 u4 u5 u6 u7 u8 u9 u10 u11 u12 u13 u14 u15
  as_aux_lemma =>
   cases htb : recB (rcB s4)
   ·have HX : Hid (rRc x p = none) := by show _ = _; rw [HT.out, htb]; rfl
    clear htb
    go_wp2
    exact ⟨rfl, HGA.out, Or.inl ⟨rfl, HX.out⟩⟩
   have HX : Hid (rRc x p = some ((rcB s4), q2)) := by show _ = _; rw [HT.out, htb]; rfl
   clear htb HT
   go_upto_region 12 with fail
   refine wp_region_lit ?_
   refine wpLoad16 rfl 44 _ rfl _ Tryz.underlying44 rfl (by kernel_rfl) (by kernel_rfl) BTA.out ?_
   simp only [Act.put, List.setIfInBounds_toArray, List.set_cons_zero, List.set_cons_succ]
   refine wpStore16K (.int .i64 4) (.int .i64 0) (.int .i64 0) (.int .i64 0) (.int .i64 0) (.slice none 0 0) (.slice none 0 0) (.bool false) (.string ⟨#[]⟩) (.string ⟨#[]⟩) (.bool false) (.slice c4.va c4.vs.length c4.vc) (.slice c4.pa c4.ps.length c4.pc) (.slice c4.qa c4.qs.length c4.qc) (.int .i64 c4.cs) (.int .i64 c4.nx) rfl 44 _ _ rfl (by kernel_rfl) (by kernel_rfl) (by kernel_rfl) BRA.out (List.forall_mem_cons.2 ⟨rfl, List.forall_mem_cons.2 ⟨rfl, List.forall_mem_cons.2 ⟨rfl, List.forall_mem_cons.2 ⟨rfl, List.forall_mem_cons.2 ⟨rfl, List.forall_mem_cons.2 ⟨rfl, List.forall_mem_cons.2 ⟨rfl, List.forall_mem_cons.2 ⟨rfl, List.forall_mem_cons.2 ⟨rfl, List.forall_mem_cons.2 ⟨rfl, List.forall_mem_cons.2 ⟨rfl, List.forall_mem_cons.2 ⟨rfl, List.forall_mem_cons.2 ⟨rfl, List.forall_mem_cons.2 ⟨rfl, List.forall_mem_cons.2 ⟨rfl, List.forall_mem_cons.2 ⟨rfl, fun _ h => by cases h⟩⟩⟩⟩⟩⟩⟩⟩⟩⟩⟩⟩⟩⟩⟩⟩) (fun WF bf zf => ?_)
   have BF := hide bf
   have HGF : Hid (w.grownBy WF (some g)) := grown_belowB HGA.out (zf.below (Nat.le_refl _) HGA.out.size) (Nat.le_refl _)
   have LF : Hid (RcLie WF w.heap.size WF.heap.size ⟨4, ⟨zT, none, 0, none, 0⟩, ⟨#[]⟩, false, c4⟩) := (LA.out.zn zf (Or.inr (by have := K1.out; have := SL.out; omega))).mono (by have := K1.out; have := SL.out; omega) (Nat.le_trans SA.out zf.size)
   have DF : Hid (Rd WF g x (q2 : Int)) := HDA.out.zn zf (by omega)
   clear BRA LA HDA HGA BTA bf zf
   go_wp2
   have q0_ := BF.out.c0
   have q1_ := BF.out.c1
   have q2_ := BF.out.c2
   have q3_ := BF.out.c3
   have q4_ := BF.out.c4
   have q5_ := BF.out.c5
   have q6_ := BF.out.c6
   have q7_ := BF.out.c7
   have q8_ := BF.out.c8
   have q9_ := BF.out.c9
   have q10_ := BF.out.c10
   have q11_ := BF.out.c11
   have q12_ := BF.out.c12
   have q13_ := BF.out.c13
   have q14_ := BF.out.c14
   have q15_ := BF.out.c15
   refine bodyPost_ret (v := .agg #[.int .i64 4, .int .i64 0, .int .i64 0, .int .i64 0, .int .i64 0, .slice none 0 0, .slice none 0 0, .bool false, .string ⟨#[]⟩, .string ⟨#[]⟩, .bool false, .slice c4.va c4.vs.length c4.vc, .slice c4.pa c4.ps.length c4.pc, .slice c4.qa c4.qs.length c4.qc, .int .i64 c4.cs, .int .i64 c4.nx]) (by simp [results, Tryz.results38, go_sem, q0_, q1_, q2_, q3_, q4_, q5_, q6_, q7_, q8_, q9_, q10_, q11_, q12_, q13_, q14_, q15_]) rfl ⟨HGF.out, Or.inr ⟨(rcB s4), q2, ⟨4, ⟨zT, none, 0, none, 0⟩, ⟨#[]⟩, false, c4⟩, HX.out, HQ.out, rfl, SM.out, LF.out, DF.out⟩⟩

end Go.Proofs.YtpnnncfbodfnhaaGreatDoor

namespace Go.Proofs.YtpnnncfbodfnhaaGreatDoor
open Go.RowKit
open KM
open VM
attribute [local go_sem ↓] Go.wp_at_zero Go.wp_at_succ

set_option maxRecDepth 100000 in
set_option maxHeartbeats 2000000 in
theorem irc (x : ByteArray) (g : Nat) (p : Int) (hs : x.size ≤ 1048576) (w : World) (hd : Rd w g x p) :
  Calls Tryz.prog 38 #[.pointer (some ⟨g, 0, none⟩)] w fun e w' => w.grownBy w' (some g) ∧ ((e = .panicked PAN ∧ rRc x p = none) ∨ ∃ s q c, rRc x p = some (s, q) ∧ q ≤ x.size ∧ e = .returned (.agg #[.int .i64 c.k, .int .i64 c.t.t.id, .int .i64 c.t.t.st, .int .i64 c.t.t.snap, .int .i64 c.t.t.cs, .slice c.t.ra c.t.t.rs.length c.t.rc, .slice c.t.wa c.t.t.ws.length c.t.wc, .bool c.t.t.out, .string c.t.t.nm, .string c.nm, .bool c.yes, .slice c.b.va c.b.vs.length c.b.vc, .slice c.b.pa c.b.ps.length c.b.pc, .slice c.b.qa c.b.qs.length c.b.qc, .int .i64 c.b.cs, .int .i64 c.b.nx]) ∧ RcSame s c ∧ RcLie w' w.heap.size w'.heap.size c ∧ Rd w' g x (q : Int)) := by
 cases hn : rN x p with
 | none =>
  have HX : Hid (rRc x p = none) := by show _ = _; simp only [rRc, hn]
  have HD0 : Hid (Rd (w.alloc (.cells #[.int .i64 0, .int .i64 0, .int .i64 0, .int .i64 0, .int .i64 0, .slice none 0 0, .slice none 0 0, .bool false, .string ⟨#[]⟩, .string ⟨#[]⟩, .bool false, .slice none 0 0, .slice none 0 0, .slice none 0 0, .int .i64 0, .int .i64 0] 44)) g x p) := hd.alloc _
  have HG0 : Hid (w.grownBy (w.alloc (.cells #[.int .i64 0, .int .i64 0, .int .i64 0, .int .i64 0, .int .i64 0, .slice none 0 0, .slice none 0 0, .bool false, .string ⟨#[]⟩, .string ⟨#[]⟩, .bool false, .slice none 0 0, .slice none 0 0, .slice none 0 0, .int .i64 0, .int .i64 0] 44)) (some g)) := grown_below _ ((belowRefl w).alloc (Nat.le_refl _) _)
  have HN := hide hn
  clear hd hn
  go_enter Tryz.func38, Tryz.ntmps38
  go_wp2_with fail
  refine (inum_no x g _ hs HN.out _ HD0.out).mono ?_
  rintro e w1 ⟨rfl, hg⟩
  have HG1 := hide (grown_trans HG0.out hg)
  clear hg
  go_wp2
  exact ⟨rfl, HG1.out, Or.inl ⟨rfl, HX.out⟩⟩
 | some r =>
  obtain ⟨n, q1⟩ := r
  by_cases h1 : n = 1
  ·subst h1; exact irc1 x g p hs q1 hn w hd
  by_cases h2 : n = 2
  ·subst h2; exact irc2 x g p hs q1 hn w hd
  by_cases h3 : n = 3
  ·subst h3; exact irc3 x g p hs q1 hn w hd
  by_cases h4 : n = 4
  ·subst h4; exact irc4 x g p hs q1 hn w hd
  exact irc0 x g p hs n q1 hn h1 h2 h3 h4 w hd

end Go.Proofs.YtpnnncfbodfnhaaGreatDoor

namespace Go.Proofs.YtpnnncfbodfnhaaGreatDoor
open Go.RowKit
open KM
open VM
attribute [local go_sem ↓] Go.wp_at_zero Go.wp_at_succ

set_option maxRecDepth 100000 in
set_option maxHeartbeats 2000000 in
theorem iclor (x : ByteArray) (rb ob g : Nat) (p : Int) (hs : x.size ≤ 1048576) (hog : ob ≠ g) (w : World) (hr : Bx w rb [.pointer (some ⟨g, 0, none⟩)]) (ho : Bx w ob [.int .i64 0, .int .i64 0, .int .i64 0, .int .i64 0, .int .i64 0, .slice none 0 0, .slice none 0 0, .bool false, .string ⟨#[]⟩, .string ⟨#[]⟩, .bool false, .slice none 0 0, .slice none 0 0, .slice none 0 0, .int .i64 0, .int .i64 0]) (hd : Rd w g x p) :
  Calls Tryz.prog 37 #[.pointer (some ⟨rb, 0, none⟩), .pointer (some ⟨ob, 0, none⟩)] w fun e w' => Kn [g, ob] w w' ∧ ((e = .panicked PAN ∧ rRc x p = none) ∨ ∃ s q c, rRc x p = some (s, q) ∧ q ≤ x.size ∧ e = .returned (.tuple #[]) ∧ RcSame s c ∧ RcLie w' w.heap.size w'.heap.size c ∧ Rd w' g x (q : Int) ∧ Bx w' ob [.int .i64 c.k, .int .i64 c.t.t.id, .int .i64 c.t.t.st, .int .i64 c.t.t.snap, .int .i64 c.t.t.cs, .slice c.t.ra c.t.t.rs.length c.t.rc, .slice c.t.wa c.t.t.ws.length c.t.wc, .bool c.t.t.out, .string c.t.t.nm, .string c.nm, .bool c.yes, .slice c.b.va c.b.vs.length c.b.vc, .slice c.b.pa c.b.ps.length c.b.pc, .slice c.b.qa c.b.qs.length c.b.qc, .int .i64 c.b.cs, .int .i64 c.b.nx]) := by
 have HR : Hid (Bx w rb [.pointer (some ⟨g, 0, none⟩)]) := hr
 have HO : Hid (Bx w ob [.int .i64 0, .int .i64 0, .int .i64 0, .int .i64 0, .int .i64 0, .slice none 0 0, .slice none 0 0, .bool false, .string ⟨#[]⟩, .string ⟨#[]⟩, .bool false, .slice none 0 0, .slice none 0 0, .slice none 0 0, .int .i64 0, .int .i64 0]) := ho
 have HD : Hid (Rd w g x p) := hd
 have hol := ho.lt
 have r0 := hr.c0
 clear hr ho hd
 go_enter Tryz.func37, Tryz.ntmps37
 go_wp2_with fail
 refine (irc x g p hs _ HD.out).mono ?_
 rintro e w1 ⟨hg, ⟨rfl, hx⟩ | ⟨s, q, c, hx, hq, rfl, hsm, hl, hd⟩⟩
 ·have HK : Hid (Kn [g, ob] w w1) := ⟨hg.os, hg.tape, hg.output, hg.size, fun j hj hn => hg.block j hj (fun e => hn (by simp [Option.some.inj e]))⟩
  have HX := hide hx
  clear hx hg r0
  go_wp2
  exact ⟨rfl, HK.out, Or.inl ⟨rfl, HX.out⟩⟩
 ·have HK : Hid (Kn [g, ob] w w1) := ⟨hg.os, hg.tape, hg.output, hg.size, fun j hj hn => hg.block j hj (fun e => hn (by simp [Option.some.inj e]))⟩
  have HX := hide hx
  have HQ := hide hq
  have HL := hide hl
  have HM := hide hsm
  have HD1 := hide hd
  have HO1 := hide (HO.out.grown hg hog)
  clear hx hq hl hd hg r0 HR HO HD hsm
  have q0_ := HO1.out.c0
  have fq0 := HO1.out.fz 0
  have q1_ := HO1.out.c1
  have fq1 := HO1.out.fz 1
  have q2_ := HO1.out.c2
  have fq2 := HO1.out.fz 2
  have q3_ := HO1.out.c3
  have fq3 := HO1.out.fz 3
  have q4_ := HO1.out.c4
  have fq4 := HO1.out.fz 4
  have q5_ := HO1.out.c5
  have fq5 := HO1.out.fz 5
  have q6_ := HO1.out.c6
  have fq6 := HO1.out.fz 6
  have q7_ := HO1.out.c7
  have fq7 := HO1.out.fz 7
  have q8_ := HO1.out.c8
  have fq8 := HO1.out.fz 8
  have q9_ := HO1.out.c9
  have fq9 := HO1.out.fz 9
  have q10_ := HO1.out.c10
  have fq10 := HO1.out.fz 10
  have q11_ := HO1.out.c11
  have fq11 := HO1.out.fz 11
  have q12_ := HO1.out.c12
  have fq12 := HO1.out.fz 12
  have q13_ := HO1.out.c13
  have fq13 := HO1.out.fz 13
  have q14_ := HO1.out.c14
  have fq14 := HO1.out.fz 14
  have q15_ := HO1.out.c15
  have fq15 := HO1.out.fz 15
  go_wp2
  go_end0
  have hb : ∀ x ∈ [ob], x ∈ [g, ob] := fun x hx => by rw [List.mem_singleton.1 hx]; simp
  refine ⟨?_, Or.inr ⟨s, q, c, HX.out, HQ.out, rfl, HM.out, ?_, ?_, ?_⟩⟩
  ·exact (((((((((((((((HK.out.trans ((Kn.set _ ob 0 _).mono hb)).trans ((Kn.set _ ob 1 _).mono hb)).trans ((Kn.set _ ob 2 _).mono hb)).trans ((Kn.set _ ob 3 _).mono hb)).trans ((Kn.set _ ob 4 _).mono hb)).trans ((Kn.set _ ob 5 _).mono hb)).trans ((Kn.set _ ob 6 _).mono hb)).trans ((Kn.set _ ob 7 _).mono hb)).trans ((Kn.set _ ob 8 _).mono hb)).trans ((Kn.set _ ob 9 _).mono hb)).trans ((Kn.set _ ob 10 _).mono hb)).trans ((Kn.set _ ob 11 _).mono hb)).trans ((Kn.set _ ob 12 _).mono hb)).trans ((Kn.set _ ob 13 _).mono hb)).trans ((Kn.set _ ob 14 _).mono hb)).trans ((Kn.set _ ob 15 _).mono hb)
  ·exact ((((((((((((((((HL.out.set (a := ⟨ob, 0, none⟩) hol _).set (a := ⟨ob, 1, none⟩) hol _).set (a := ⟨ob, 2, none⟩) hol _).set (a := ⟨ob, 3, none⟩) hol _).set (a := ⟨ob, 4, none⟩) hol _).set (a := ⟨ob, 5, none⟩) hol _).set (a := ⟨ob, 6, none⟩) hol _).set (a := ⟨ob, 7, none⟩) hol _).set (a := ⟨ob, 8, none⟩) hol _).set (a := ⟨ob, 9, none⟩) hol _).set (a := ⟨ob, 10, none⟩) hol _).set (a := ⟨ob, 11, none⟩) hol _).set (a := ⟨ob, 12, none⟩) hol _).set (a := ⟨ob, 13, none⟩) hol _).set (a := ⟨ob, 14, none⟩) hol _).set (a := ⟨ob, 15, none⟩) hol _).mono (Nat.le_refl _) (by simp [World.setCell])
  ·exact (((((((((((((((HD1.out.setO (p := ⟨ob, 0, none⟩) hog _).setO (p := ⟨ob, 1, none⟩) hog _).setO (p := ⟨ob, 2, none⟩) hog _).setO (p := ⟨ob, 3, none⟩) hog _).setO (p := ⟨ob, 4, none⟩) hog _).setO (p := ⟨ob, 5, none⟩) hog _).setO (p := ⟨ob, 6, none⟩) hog _).setO (p := ⟨ob, 7, none⟩) hog _).setO (p := ⟨ob, 8, none⟩) hog _).setO (p := ⟨ob, 9, none⟩) hog _).setO (p := ⟨ob, 10, none⟩) hog _).setO (p := ⟨ob, 11, none⟩) hog _).setO (p := ⟨ob, 12, none⟩) hog _).setO (p := ⟨ob, 13, none⟩) hog _).setO (p := ⟨ob, 14, none⟩) hog _).setO (p := ⟨ob, 15, none⟩) hog _
  ·exact (((((((((((((((HO1.out.set 0 _).set 1 _).set 2 _).set 3 _).set 4 _).set 5 _).set 6 _).set 7 _).set 8 _).set 9 _).set 10 _).set 11 _).set 12 _).set 13 _).set 14 _).set 15 _

set_option maxRecDepth 100000 in
set_option maxHeartbeats 2000000 in
theorem iwholer (x : ByteArray) (rb ob g : Nat) (p : Int) (hs : x.size ≤ 1048576) (hog : ob ≠ g) (w : World) (hr : Bx w rb [.pointer (some ⟨g, 0, none⟩)]) (ho : Bx w ob [.int .i64 0, .int .i64 0, .int .i64 0, .int .i64 0, .int .i64 0, .slice none 0 0, .slice none 0 0, .bool false, .string ⟨#[]⟩, .string ⟨#[]⟩, .bool false, .slice none 0 0, .slice none 0 0, .slice none 0 0, .int .i64 0, .int .i64 0]) (hd : Rd w g x p) :
  Calls Tryz.prog 36 #[.func (.func 37) #[] #[.pointer (some ⟨rb, 0, none⟩), .pointer (some ⟨ob, 0, none⟩)]] w fun e w' => Kn [g, ob] w w' ∧ ((e = .returned (.bool false) ∧ rRc x p = none) ∨ ∃ s q c, rRc x p = some (s, q) ∧ q ≤ x.size ∧ e = .returned (.bool true) ∧ RcSame s c ∧ RcLie w' w.heap.size w'.heap.size c ∧ Rd w' g x (q : Int) ∧ Bx w' ob [.int .i64 c.k, .int .i64 c.t.t.id, .int .i64 c.t.t.st, .int .i64 c.t.t.snap, .int .i64 c.t.t.cs, .slice c.t.ra c.t.t.rs.length c.t.rc, .slice c.t.wa c.t.t.ws.length c.t.wc, .bool c.t.t.out, .string c.t.t.nm, .string c.nm, .bool c.yes, .slice c.b.va c.b.vs.length c.b.vc, .slice c.b.pa c.b.ps.length c.b.pc, .slice c.b.qa c.b.qs.length c.b.qc, .int .i64 c.b.cs, .int .i64 c.b.nx]) := by
 have hmf : ∀ (fn : Fn) (first cap : Array Value) (w : World), (Instr.makeFunc fn first cap).run Tryz.prog w = .ok (.func fn first cap) w := fun _ _ _ _ => rfl
 have hol := ho.lt
 have hgl := hd.lt
 have HR : Hid (Bx (w.alloc (.cells #[.bool false] 4)) rb [.pointer (some ⟨g, 0, none⟩)]) := hr.alloc _
 have HO : Hid (Bx (w.alloc (.cells #[.bool false] 4)) ob [.int .i64 0, .int .i64 0, .int .i64 0, .int .i64 0, .int .i64 0, .slice none 0 0, .slice none 0 0, .bool false, .string ⟨#[]⟩, .string ⟨#[]⟩, .bool false, .slice none 0 0, .slice none 0 0, .slice none 0 0, .int .i64 0, .int .i64 0]) := ho.alloc _
 have HD : Hid (Rd (w.alloc (.cells #[.bool false] 4)) g x p) := hd.alloc _
 have HC : Hid (Bx (w.alloc (.cells #[.bool false] 4)) w.heap.size [.bool false]) := Bx.new w [.bool false] 4
 have HB : Hid (Below w.heap.size w (w.alloc (.cells #[.bool false] 4))) := (belowRefl w).alloc (Nat.le_refl _) _
 have hcg : w.heap.size ∉ [g, ob] := by simp; omega
 clear hr ho hd
 go_enter_defers Tryz.func36, Tryz.ntmps36
 go_wp2_with fail
 generalize hWW : (w.alloc (.cells #[.bool false] 4)) = W1 at HR HO HD HC HB ⊢
 have HS1 : Hid (w.heap.size < W1.heap.size) := HC.out.lt
 have HS : Hid (w.heap.size ≤ W1.heap.size) := HB.out.size
 clear hWW
 refine (iclor x rb ob g p hs hog _ HR.out HO.out HD.out).mono ?_
 rintro e w1 ⟨hk, ⟨rfl, hx⟩ | ⟨s, q, c, hx, hq, rfl, hsm, hl, hd, ho⟩⟩
 ·have HC1 := hide (HC.out.kn hk hcg)
  have HK := hide hk
  have HX := hide hx
  clear hk hx HC
  go_wp2
  refine leaves_cons (f := 75) (args := #[.pointer (some ⟨w.heap.size, 0, none⟩)]) (by simp) (by simp [go_sem]) ?_
  refine (catch_pan w.heap.size false _ HC1.out.c0 (HC1.out.fz 0) HC1.out.lt).mono ?_
  rintro e u' w2 ⟨rfl, rfl, rfl⟩
  have q0 := ((HC1.out.set 0 (.bool false)).alloc (.cells #[] 140)).c0
  refine ⟨.bool false, by simp [results, Tryz.results36, go_sem, q0], ?_, Or.inl ⟨rfl, HX.out⟩⟩
  exact kn_new HB.out HK.out (below_ca (Nat.le_trans HS.out HK.out.size) _)
 ·have HC1 := hide (HC.out.kn hk hcg)
  have HK := hide hk
  have HX := hide hx
  have HQ := hide hq
  have HL := hide hl
  have HM := hide hsm
  have HD1 := hide hd
  have HO1 := hide ho
  clear hk hx hq hl hd ho HC hsm
  go_wp2
  refine leaves_cons (f := 75) (args := #[.pointer (some ⟨w.heap.size, 0, none⟩)]) (by simp) (by simp [go_sem]) ?_
  refine (catch_idle w.heap.size false _ HC1.out.c0 (HC1.out.fz 0) HC1.out.lt).mono ?_
  rintro e u' w2 ⟨rfl, rfl, rfl⟩
  have q0 := ((HC1.out.set 0 (.bool true)).alloc (.cells #[] 140)).c0
  have hne : ∀ v, Below w.heap.size w1 ((w1.setCell ⟨w.heap.size, 0, none⟩ v).alloc (.cells #[] 140)) := fun v => below_ca (Nat.le_trans HS.out HK.out.size) v
  refine ⟨.bool true, by simp [results, Tryz.results36, go_sem, q0], ?_, Or.inr ⟨s, q, c, HX.out, HQ.out, rfl, HM.out, ?_, ?_, ?_⟩⟩
  ·exact kn_new HB.out HK.out (hne _)
  ·refine (RcLie.mono (((HL.out.set (a := ⟨w.heap.size, 0, none⟩) HS1.out _)).below ((belowRefl _).alloc (Nat.le_refl _) _)) HS.out ?_)
   simp [World.setCell]
  ·exact (HD1.out.setO (p := ⟨w.heap.size, 0, none⟩) (by show w.heap.size ≠ g; omega) _).alloc _
  ·exact (HO1.out.setO (p := ⟨w.heap.size, 0, none⟩) (by show w.heap.size ≠ ob; omega) _).alloc _

end Go.Proofs.YtpnnncfbodfnhaaGreatDoor
