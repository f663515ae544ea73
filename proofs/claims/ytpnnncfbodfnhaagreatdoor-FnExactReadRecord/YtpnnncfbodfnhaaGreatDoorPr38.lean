/- What spec.ReadRecord returns: of a base. -/
import Derived.Test.YtpnnncfbodfnhaaGreatDoorPr35
import Derived.Test.YtpnnncfbodfnhaaGreatDoorPr36
namespace Go.Proofs.YtpnnncfbodfnhaaGreatDoor
open Go.RowKit
open KM
open VM
attribute [local go_sem ↓] Go.wp_at_zero Go.wp_at_succ

set_option maxRecDepth 100000 in
set_option maxHeartbeats 4000000 in
theorem srrB (t u : ByteArray) (K : Nat) (hs : u.size ≤ 1048576) (hu : 0 < u.size) (hK : u[0].toNat = 4) (k4 : K = 4) (w : World) (CU : Hid (∀ W, Below w.heap.size w W → Calls Tryz.prog 30 #[.string t] W fun e w' => e = .returned (.tuple #[.string u, .bool true]) ∧ Below W.heap.size W w')) :
  Calls Tryz.prog 10 #[.string t] w fun e w' => ∃ r, sRc u K r ∧ Below w.heap.size w w' ∧ ((recB r = true ∧ sealB ⟨(rcL r).toArray⟩ = t ∧ e = .returned (.tuple #[.agg #[.int .i64 r.k, .int .i64 r.t.t.id, .int .i64 r.t.t.st, .int .i64 r.t.t.snap, .int .i64 r.t.t.cs, .slice r.t.ra r.t.t.rs.length r.t.rc, .slice r.t.wa r.t.t.ws.length r.t.wc, .bool r.t.t.out, .string r.t.t.nm, .string r.nm, .bool r.yes, .slice r.b.va r.b.vs.length r.b.vc, .slice r.b.pa r.b.ps.length r.b.pc, .slice r.b.qa r.b.qs.length r.b.qc, .int .i64 r.b.cs, .int .i64 r.b.nx], .bool true]) ∧ RcLie w' w.heap.size w'.heap.size r) ∨ (¬ (recB r = true ∧ sealB ⟨(rcL r).toArray⟩ = t) ∧ e = .returned (.tuple #[.agg #[.int .i64 0, .int .i64 0, .int .i64 0, .int .i64 0, .int .i64 0, .slice none 0 0, .slice none 0 0, .bool false, .string ⟨#[]⟩, .string ⟨#[]⟩, .bool false, .slice none 0 0, .slice none 0 0, .slice none 0 0, .int .i64 0, .int .i64 0], .bool false]))) := by
 obtain ⟨b1, q1, o1, ha⟩ : ∃ b1 q1 o1, ansB (rBs u 1) = (b1, q1, o1) := ⟨_, _, _, rfl⟩
 have HA := hide ha
 have CS : Hid (∀ W, Calls Tryz.prog 33 #[.string u, .int .i64 1] W fun e w' => ∃ c, e = .returned (.tuple #[.agg #[.slice c.va c.vs.length c.vc, .slice c.pa c.ps.length c.pc, .slice c.qa c.qs.length c.qc, .int .i64 c.cs, .int .i64 c.nx], .int .i64 (q1 : Int), .bool o1]) ∧ BSame b1 c ∧ BLie w' W.heap.size w'.heap.size c ∧ Below W.heap.size W w') := fun W => srb u 1 hs b1 q1 o1 ha W
 clear ha
 have hne0 : u.toList.isEmpty = false := by
  cases h : u.toList.isEmpty
  ·rfl
  ·have := empty_size h
   omega
 have hu0 : (0 : Int) < (u.size : Int) := by omega
 have B0 : Hid (Bx (w.alloc (.cells #[.int .i64 0, .int .i64 0, .int .i64 0, .int .i64 0, .int .i64 0, .slice none 0 0, .slice none 0 0, .bool false, .string ⟨#[]⟩, .string ⟨#[]⟩, .bool false, .slice none 0 0, .slice none 0 0, .slice none 0 0, .int .i64 0, .int .i64 0] 44)) w.heap.size [.int .i64 0, .int .i64 0, .int .i64 0, .int .i64 0, .int .i64 0, .slice none 0 0, .slice none 0 0, .bool false, .string ⟨#[]⟩, .string ⟨#[]⟩, .bool false, .slice none 0 0, .slice none 0 0, .slice none 0 0, .int .i64 0, .int .i64 0]) := Bx.new w [.int .i64 0, .int .i64 0, .int .i64 0, .int .i64 0, .int .i64 0, .slice none 0 0, .slice none 0 0, .bool false, .string ⟨#[]⟩, .string ⟨#[]⟩, .bool false, .slice none 0 0, .slice none 0 0, .slice none 0 0, .int .i64 0, .int .i64 0] 44
 have HB0 : Hid (Below w.heap.size w (w.alloc (.cells #[.int .i64 0, .int .i64 0, .int .i64 0, .int .i64 0, .int .i64 0, .slice none 0 0, .slice none 0 0, .bool false, .string ⟨#[]⟩, .string ⟨#[]⟩, .bool false, .slice none 0 0, .slice none 0 0, .slice none 0 0, .int .i64 0, .int .i64 0] 44))) := (belowRefl w).alloc (Nat.le_refl _) _
 go_enter Tryz.func10, Tryz.ntmps10
 go_wp2_with fail
 generalize (w.alloc (.cells #[.int .i64 0, .int .i64 0, .int .i64 0, .int .i64 0, .int .i64 0, .slice none 0 0, .slice none 0 0, .bool false, .string ⟨#[]⟩, .string ⟨#[]⟩, .bool false, .slice none 0 0, .slice none 0 0, .slice none 0 0, .int .i64 0, .int .i64 0] 44)) = W0 at B0 HB0 ⊢
 refine (CU.out _ HB0.out).mono ?_
 rintro e w1 ⟨rfl, hb⟩
 have B1 := hide (B0.out.below hb)
 have HB1 : Hid (Below w.heap.size w w1) := HB0.out.trans (hb.mono HB0.out.size)
 clear hb B0 HB0
 have hb1 : Below w1.heap.size w1 (w1.alloc (.cells #[.int .i64 4, .int .i64 0, .int .i64 0, .int .i64 0, .int .i64 0, .slice none 0 0, .slice none 0 0, .bool false, .string ⟨#[]⟩, .string ⟨#[]⟩, .bool false, .slice none 0 0, .slice none 0 0, .slice none 0 0, .int .i64 0, .int .i64 0] 44)) := (belowRefl w1).alloc (Nat.le_refl _) _
 have B2 : Hid (Bx (w1.alloc (.cells #[.int .i64 4, .int .i64 0, .int .i64 0, .int .i64 0, .int .i64 0, .slice none 0 0, .slice none 0 0, .bool false, .string ⟨#[]⟩, .string ⟨#[]⟩, .bool false, .slice none 0 0, .slice none 0 0, .slice none 0 0, .int .i64 0, .int .i64 0] 44)) w.heap.size [.int .i64 0, .int .i64 0, .int .i64 0, .int .i64 0, .int .i64 0, .slice none 0 0, .slice none 0 0, .bool false, .string ⟨#[]⟩, .string ⟨#[]⟩, .bool false, .slice none 0 0, .slice none 0 0, .slice none 0 0, .int .i64 0, .int .i64 0]) := B1.out.below hb1
 have HB2 : Hid (Below w.heap.size w (w1.alloc (.cells #[.int .i64 4, .int .i64 0, .int .i64 0, .int .i64 0, .int .i64 0, .slice none 0 0, .slice none 0 0, .bool false, .string ⟨#[]⟩, .string ⟨#[]⟩, .bool false, .slice none 0 0, .slice none 0 0, .slice none 0 0, .int .i64 0, .int .i64 0] 44))) := HB1.out.trans (hb1.mono HB1.out.size)
 have BX2 : Hid (Bx (w1.alloc (.cells #[.int .i64 4, .int .i64 0, .int .i64 0, .int .i64 0, .int .i64 0, .slice none 0 0, .slice none 0 0, .bool false, .string ⟨#[]⟩, .string ⟨#[]⟩, .bool false, .slice none 0 0, .slice none 0 0, .slice none 0 0, .int .i64 0, .int .i64 0] 44)) w1.heap.size [.int .i64 4, .int .i64 0, .int .i64 0, .int .i64 0, .int .i64 0, .slice none 0 0, .slice none 0 0, .bool false, .string ⟨#[]⟩, .string ⟨#[]⟩, .bool false, .slice none 0 0, .slice none 0 0, .slice none 0 0, .int .i64 0, .int .i64 0]) := Bx.new w1 [.int .i64 4, .int .i64 0, .int .i64 0, .int .i64 0, .int .i64 0, .slice none 0 0, .slice none 0 0, .bool false, .string ⟨#[]⟩, .string ⟨#[]⟩, .bool false, .slice none 0 0, .slice none 0 0, .slice none 0 0, .int .i64 0, .int .i64 0] 44
 have S2 : Hid (w.heap.size < w1.heap.size) := B1.out.lt
 have S3 : Hid (w1.heap.size + 1 = (w1.alloc (.cells #[.int .i64 4, .int .i64 0, .int .i64 0, .int .i64 0, .int .i64 0, .slice none 0 0, .slice none 0 0, .bool false, .string ⟨#[]⟩, .string ⟨#[]⟩, .bool false, .slice none 0 0, .slice none 0 0, .slice none 0 0, .int .i64 0, .int .i64 0] 44)).heap.size) := by show _ = _; rw [World.size_alloc]
 clear hb1 B1 HB1
 have u0 := BX2.out.c0
 go_wp2_with fail
 generalize hWW : (w1.alloc (.cells #[.int .i64 4, .int .i64 0, .int .i64 0, .int .i64 0, .int .i64 0, .slice none 0 0, .slice none 0 0, .bool false, .string ⟨#[]⟩, .string ⟨#[]⟩, .bool false, .slice none 0 0, .slice none 0 0, .slice none 0 0, .int .i64 0, .int .i64 0] 44)) = W1 at *
 clear hWW u0
 refine (CS.out _).mono ?_
 rintro e w2 ⟨c4, rfl, hsm, hl, hb⟩
 have hne2 : w1.heap.size ≠ w.heap.size := by have := S2.out; omega
 replace B2 := hide (B2.out.below hb)
 replace BX2 := hide (BX2.out.below hb)
 replace HB2 : Hid (Below w.heap.size w w2) := HB2.out.trans (hb.mono HB2.out.size)
 have L2 : Hid (BLie w2 W1.heap.size w2.heap.size c4) := hl
 have Z2 : Hid (W1.heap.size ≤ w2.heap.size) := hb.size
 have HSM := hide hsm
 clear hl hb hsm
 have u11 := BX2.out.c11
 have fu11 := BX2.out.fz 11
 have u12 := BX2.out.c12
 have fu12 := BX2.out.fz 12
 have u13 := BX2.out.c13
 have fu13 := BX2.out.fz 13
 have u14 := BX2.out.c14
 have fu14 := BX2.out.fz 14
 have u15 := BX2.out.c15
 have fu15 := BX2.out.fz 15
 go_upto_region 13 with fail
 clear u11 fu11 u12 fu12 u13 fu13 u14 fu14 u15 fu15
 replace B2 : Hid (Bx (((((w2.setCell ⟨w1.heap.size, 11, none⟩ (.slice c4.va c4.vs.length c4.vc)).setCell ⟨w1.heap.size, 12, none⟩ (.slice c4.pa c4.ps.length c4.pc)).setCell ⟨w1.heap.size, 13, none⟩ (.slice c4.qa c4.qs.length c4.qc)).setCell ⟨w1.heap.size, 14, none⟩ (.int .i64 c4.cs)).setCell ⟨w1.heap.size, 15, none⟩ (.int .i64 c4.nx)) w.heap.size [.int .i64 0, .int .i64 0, .int .i64 0, .int .i64 0, .int .i64 0, .slice none 0 0, .slice none 0 0, .bool false, .string ⟨#[]⟩, .string ⟨#[]⟩, .bool false, .slice none 0 0, .slice none 0 0, .slice none 0 0, .int .i64 0, .int .i64 0]) := ((((B2.out.setO (p := ⟨w1.heap.size, 11, none⟩) hne2 _).setO (p := ⟨w1.heap.size, 12, none⟩) hne2 _).setO (p := ⟨w1.heap.size, 13, none⟩) hne2 _).setO (p := ⟨w1.heap.size, 14, none⟩) hne2 _).setO (p := ⟨w1.heap.size, 15, none⟩) hne2 _
 replace BX2 : Hid (Bx (((((w2.setCell ⟨w1.heap.size, 11, none⟩ (.slice c4.va c4.vs.length c4.vc)).setCell ⟨w1.heap.size, 12, none⟩ (.slice c4.pa c4.ps.length c4.pc)).setCell ⟨w1.heap.size, 13, none⟩ (.slice c4.qa c4.qs.length c4.qc)).setCell ⟨w1.heap.size, 14, none⟩ (.int .i64 c4.cs)).setCell ⟨w1.heap.size, 15, none⟩ (.int .i64 c4.nx)) w1.heap.size [.int .i64 4, .int .i64 0, .int .i64 0, .int .i64 0, .int .i64 0, .slice none 0 0, .slice none 0 0, .bool false, .string ⟨#[]⟩, .string ⟨#[]⟩, .bool false, .slice c4.va c4.vs.length c4.vc, .slice c4.pa c4.ps.length c4.pc, .slice c4.qa c4.qs.length c4.qc, .int .i64 c4.cs, .int .i64 c4.nx]) := ((((BX2.out.set 11 _).set 12 _).set 13 _).set 14 _).set 15 _
 replace HB2 : Hid (Below w.heap.size w (((((w2.setCell ⟨w1.heap.size, 11, none⟩ (.slice c4.va c4.vs.length c4.vc)).setCell ⟨w1.heap.size, 12, none⟩ (.slice c4.pa c4.ps.length c4.pc)).setCell ⟨w1.heap.size, 13, none⟩ (.slice c4.qa c4.qs.length c4.qc)).setCell ⟨w1.heap.size, 14, none⟩ (.int .i64 c4.cs)).setCell ⟨w1.heap.size, 15, none⟩ (.int .i64 c4.nx))) := ((((HB2.out.setCell (p := ⟨w1.heap.size, 11, none⟩) (by have := S2.out; show w.heap.size ≤ w1.heap.size; omega) _).setCell (p := ⟨w1.heap.size, 12, none⟩) (by have := S2.out; show w.heap.size ≤ w1.heap.size; omega) _).setCell (p := ⟨w1.heap.size, 13, none⟩) (by have := S2.out; show w.heap.size ≤ w1.heap.size; omega) _).setCell (p := ⟨w1.heap.size, 14, none⟩) (by have := S2.out; show w.heap.size ≤ w1.heap.size; omega) _).setCell (p := ⟨w1.heap.size, 15, none⟩) (by have := S2.out; show w.heap.size ≤ w1.heap.size; omega) _
 replace L2 : Hid (BLie (((((w2.setCell ⟨w1.heap.size, 11, none⟩ (.slice c4.va c4.vs.length c4.vc)).setCell ⟨w1.heap.size, 12, none⟩ (.slice c4.pa c4.ps.length c4.pc)).setCell ⟨w1.heap.size, 13, none⟩ (.slice c4.qa c4.qs.length c4.qc)).setCell ⟨w1.heap.size, 14, none⟩ (.int .i64 c4.cs)).setCell ⟨w1.heap.size, 15, none⟩ (.int .i64 c4.nx)) W1.heap.size w2.heap.size c4) := ((((L2.out.set (a := ⟨w1.heap.size, 11, none⟩) (by have := S3.out; show w1.heap.size < _; omega) _).set (a := ⟨w1.heap.size, 12, none⟩) (by have := S3.out; show w1.heap.size < _; omega) _).set (a := ⟨w1.heap.size, 13, none⟩) (by have := S3.out; show w1.heap.size < _; omega) _).set (a := ⟨w1.heap.size, 14, none⟩) (by have := S3.out; show w1.heap.size < _; omega) _).set (a := ⟨w1.heap.size, 15, none⟩) (by have := S3.out; show w1.heap.size < _; omega) _
 have Z3 : Hid (w2.heap.size ≤ (((((w2.setCell ⟨w1.heap.size, 11, none⟩ (.slice c4.va c4.vs.length c4.vc)).setCell ⟨w1.heap.size, 12, none⟩ (.slice c4.pa c4.ps.length c4.pc)).setCell ⟨w1.heap.size, 13, none⟩ (.slice c4.qa c4.qs.length c4.qc)).setCell ⟨w1.heap.size, 14, none⟩ (.int .i64 c4.cs)).setCell ⟨w1.heap.size, 15, none⟩ (.int .i64 c4.nx)).heap.size) := by show _ ≤ _; simp [World.setCell]
 generalize (((((w2.setCell ⟨w1.heap.size, 11, none⟩ (.slice c4.va c4.vs.length c4.vc)).setCell ⟨w1.heap.size, 12, none⟩ (.slice c4.pa c4.ps.length c4.pc)).setCell ⟨w1.heap.size, 13, none⟩ (.slice c4.qa c4.qs.length c4.qc)).setCell ⟨w1.heap.size, 14, none⟩ (.int .i64 c4.cs)).setCell ⟨w1.heap.size, 15, none⟩ (.int .i64 c4.nx)) = w3 at *
 have LC0 : Hid (RcLie w3 W1.heap.size w3.heap.size ⟨4, ⟨zT, none, 0, none, 0⟩, ⟨#[]⟩, false, c4⟩) := ⟨W1.heap.size, Nat.le_refl _, Nat.le_trans Z2.out Z3.out, zlie _ _ _ (Nat.le_refl _), L2.out.mono (Nat.le_refl _) Z3.out⟩
 have LC : Hid (RcLie w3 (w1.heap.size + 1) w3.heap.size ⟨4, ⟨zT, none, 0, none, 0⟩, ⟨#[]⟩, false, c4⟩) := by have h := LC0.out; rw [← S3.out] at h; exact h
 have FT : Hid (RcFit ⟨4, ⟨zT, none, 0, none, 0⟩, ⟨#[]⟩, false, c4⟩) := ⟨zT_fit, by show 0 ≤ _; omega, HSM.out.fit (rBs_fit HA.out)⟩
 have SR : Hid (sRc u K ⟨4, ⟨zT, none, 0, none, 0⟩, ⟨#[]⟩, false, c4⟩) := Or.inr (Or.inr ⟨k4, b1, q1, o1, HA.out, rfl, rfl, rfl, rfl, HSM.out⟩)
 clear L2 Z2 Z3 LC0 HA CS CU HSM
 as_aux_lemma =>
  have HRw : Hid (RcRows w3 ⟨4, ⟨zT, none, 0, none, 0⟩, ⟨#[]⟩, false, c4⟩) := LC.out.rows
  have CC : Hid (∀ W, RcRows W ⟨4, ⟨zT, none, 0, none, 0⟩, ⟨#[]⟩, false, c4⟩ → Calls Tryz.prog 6 #[.agg #[.int .i64 4, .int .i64 0, .int .i64 0, .int .i64 0, .int .i64 0, .slice none 0 0, .slice none 0 0, .bool false, .string ⟨#[]⟩, .string ⟨#[]⟩, .bool false, .slice c4.va c4.vs.length c4.vc, .slice c4.pa c4.ps.length c4.pc, .slice c4.qa c4.qs.length c4.qc, .int .i64 c4.cs, .int .i64 c4.nx]] W fun e w' => e = .returned (rctV ⟨4, ⟨zT, none, 0, none, 0⟩, ⟨#[]⟩, false, c4⟩) ∧ Below W.heap.size W w') := fun W h => srct ⟨4, ⟨zT, none, 0, none, 0⟩, ⟨#[]⟩, false, c4⟩ FT.out W h
  cases hrb : recB ⟨4, ⟨zT, none, 0, none, 0⟩, ⟨#[]⟩, false, c4⟩
  ·have HV : Hid (rctV ⟨4, ⟨zT, none, 0, none, 0⟩, ⟨#[]⟩, false, c4⟩ = .tuple #[.string ⟨#[]⟩, .bool false]) := by show _ = _; unfold rctV; rw [hrb]; rfl
   have HN : Hid (¬ (recB ⟨4, ⟨zT, none, 0, none, 0⟩, ⟨#[]⟩, false, c4⟩ = true ∧ sealB ⟨(rcL ⟨4, ⟨zT, none, 0, none, 0⟩, ⟨#[]⟩, false, c4⟩).toArray⟩ = t)) := fun h => by have := h.1; rw [hrb] at this; cases this
   clear hrb
   rw [HV.out] at CC
   as_aux_lemma =>
    have u0 := BX2.out.c0
    have u1 := BX2.out.c1
    have u2 := BX2.out.c2
    have u3 := BX2.out.c3
    have u4 := BX2.out.c4
    have u5 := BX2.out.c5
    have u6 := BX2.out.c6
    have u7 := BX2.out.c7
    have u8 := BX2.out.c8
    have u9 := BX2.out.c9
    have u10 := BX2.out.c10
    have u11 := BX2.out.c11
    have u12 := BX2.out.c12
    have u13 := BX2.out.c13
    have u14 := BX2.out.c14
    have u15 := BX2.out.c15
    go_wp2_with fail
    refine (CC.out _ HRw.out).mono ?_
    rintro e w5 ⟨rfl, hb⟩
    have B5 := hide (B2.out.below hb)
    have HB5 : Hid (Below w.heap.size w w5) := HB2.out.trans (hb.mono HB2.out.size)
    clear hb u0 u1 u2 u3 u4 u5 u6 u7 u8 u9 u10 u11 u12 u13 u14 u15 BX2 B2 HB2 LC HRw
    go_upto_region 15 with fail
    refine wp_region_lit ?_
    refine wpList_plain rfl fun K hK => ?_
    go_simp
    refine hK _ _ ?_
    clear hK K
    refine wpStore16K (.int .i64 0) (.int .i64 0) (.int .i64 0) (.int .i64 0) (.int .i64 0) (.slice none 0 0) (.slice none 0 0) (.bool false) (.string ⟨#[]⟩) (.string ⟨#[]⟩) (.bool false) (.slice none 0 0) (.slice none 0 0) (.slice none 0 0) (.int .i64 0) (.int .i64 0) rfl 44 _ _ rfl (by kernel_rfl) (by kernel_rfl) (by kernel_rfl) B5.out (List.forall_mem_cons.2 ⟨rfl, List.forall_mem_cons.2 ⟨rfl, List.forall_mem_cons.2 ⟨rfl, List.forall_mem_cons.2 ⟨rfl, List.forall_mem_cons.2 ⟨rfl, List.forall_mem_cons.2 ⟨rfl, List.forall_mem_cons.2 ⟨rfl, List.forall_mem_cons.2 ⟨rfl, List.forall_mem_cons.2 ⟨rfl, List.forall_mem_cons.2 ⟨rfl, List.forall_mem_cons.2 ⟨rfl, List.forall_mem_cons.2 ⟨rfl, List.forall_mem_cons.2 ⟨rfl, List.forall_mem_cons.2 ⟨rfl, List.forall_mem_cons.2 ⟨rfl, List.forall_mem_cons.2 ⟨rfl, fun _ h => by cases h⟩⟩⟩⟩⟩⟩⟩⟩⟩⟩⟩⟩⟩⟩⟩⟩) (fun WF bf zf => ?_)
    have BF := hide bf
    have HBF : Hid (Below w.heap.size w WF) := HB5.out.trans (zf.below (Nat.le_refl _) HB5.out.size)
    clear B5 HB5 bf zf
    go_wp2
    have q0_ := BF.out.c0
    have q1_ := BF.out.c1
    have q2_ := BF.out.c2
    have q3_ := BF.out.c3
    have q4_ := BF.out.c4
    have q5_ := BF.out.c5
    have q6_ := BF.out.c6
    have q7_ := BF.out.c7
    have q8_ := BF.out.c8
    have q9_ := BF.out.c9
    have q10_ := BF.out.c10
    have q11_ := BF.out.c11
    have q12_ := BF.out.c12
    have q13_ := BF.out.c13
    have q14_ := BF.out.c14
    have q15_ := BF.out.c15
    refine bodyPost_ret (v := .tuple #[.agg #[.int .i64 0, .int .i64 0, .int .i64 0, .int .i64 0, .int .i64 0, .slice none 0 0, .slice none 0 0, .bool false, .string ⟨#[]⟩, .string ⟨#[]⟩, .bool false, .slice none 0 0, .slice none 0 0, .slice none 0 0, .int .i64 0, .int .i64 0], .bool false]) (by simp [results, Tryz.results10, go_sem, q0_, q1_, q2_, q3_, q4_, q5_, q6_, q7_, q8_, q9_, q10_, q11_, q12_, q13_, q14_, q15_]) rfl ⟨_, SR.out, HBF.out, Or.inr ⟨HN.out, rfl⟩⟩
  ·have HV : Hid (rctV ⟨4, ⟨zT, none, 0, none, 0⟩, ⟨#[]⟩, false, c4⟩ = .tuple #[.string (sealB ⟨(rcL ⟨4, ⟨zT, none, 0, none, 0⟩, ⟨#[]⟩, false, c4⟩).toArray⟩), .bool true]) := by show _ = _; unfold rctV; rw [hrb]; rfl
   have HRB : Hid (recB ⟨4, ⟨zT, none, 0, none, 0⟩, ⟨#[]⟩, false, c4⟩ = true) := hrb
   clear hrb
   rw [HV.out] at CC
   clear HV
   obtain ⟨sb, HSB⟩ : ∃ sb, Hid (sealB ⟨(rcL ⟨4, ⟨zT, none, 0, none, 0⟩, ⟨#[]⟩, false, c4⟩).toArray⟩ = sb) := ⟨_, rfl⟩
   rw [HSB.out] at CC
   as_aux_lemma =>
    have u0 := BX2.out.c0
    have u1 := BX2.out.c1
    have u2 := BX2.out.c2
    have u3 := BX2.out.c3
    have u4 := BX2.out.c4
    have u5 := BX2.out.c5
    have u6 := BX2.out.c6
    have u7 := BX2.out.c7
    have u8 := BX2.out.c8
    have u9 := BX2.out.c9
    have u10 := BX2.out.c10
    have u11 := BX2.out.c11
    have u12 := BX2.out.c12
    have u13 := BX2.out.c13
    have u14 := BX2.out.c14
    have u15 := BX2.out.c15
    go_wp2_with fail
    refine (CC.out _ HRw.out).mono ?_
    rintro e w5 ⟨rfl, hb⟩
    have B5 := hide (B2.out.below hb)
    have HB5 : Hid (Below w.heap.size w w5) := HB2.out.trans (hb.mono HB2.out.size)
    have BX5 := hide (BX2.out.below hb)
    have LC5 := hide (LC.out.below hb)
    have S5 : Hid (w3.heap.size ≤ w5.heap.size) := hb.size
    clear hb u0 u1 u2 u3 u4 u5 u6 u7 u8 u9 u10 u11 u12 u13 u14 u15 BX2 B2 HB2 LC HRw
    by_cases hst : sb = t
    ·have hbn : (!(sb.toList == t.toList)) = false := by rw [hst]; simp
     have HST : Hid (sealB ⟨(rcL ⟨4, ⟨zT, none, 0, none, 0⟩, ⟨#[]⟩, false, c4⟩).toArray⟩ = t) := by show _ = _; rw [HSB.out]; exact hst
     clear hst HSB
     as_aux_lemma =>
      go_upto_region 16 with fail
      clear hbn
      refine wp_region_lit ?_
      refine wpLoad16 rfl 44 _ rfl _ Tryz.underlying44 rfl (by kernel_rfl) (by kernel_rfl) BX5.out ?_
      simp only [Act.put, List.setIfInBounds_toArray, List.set_cons_zero, List.set_cons_succ]
      refine wpStore16K (.int .i64 4) (.int .i64 0) (.int .i64 0) (.int .i64 0) (.int .i64 0) (.slice none 0 0) (.slice none 0 0) (.bool false) (.string ⟨#[]⟩) (.string ⟨#[]⟩) (.bool false) (.slice c4.va c4.vs.length c4.vc) (.slice c4.pa c4.ps.length c4.pc) (.slice c4.qa c4.qs.length c4.qc) (.int .i64 c4.cs) (.int .i64 c4.nx) rfl 44 _ _ rfl (by kernel_rfl) (by kernel_rfl) (by kernel_rfl) B5.out (List.forall_mem_cons.2 ⟨rfl, List.forall_mem_cons.2 ⟨rfl, List.forall_mem_cons.2 ⟨rfl, List.forall_mem_cons.2 ⟨rfl, List.forall_mem_cons.2 ⟨rfl, List.forall_mem_cons.2 ⟨rfl, List.forall_mem_cons.2 ⟨rfl, List.forall_mem_cons.2 ⟨rfl, List.forall_mem_cons.2 ⟨rfl, List.forall_mem_cons.2 ⟨rfl, List.forall_mem_cons.2 ⟨rfl, List.forall_mem_cons.2 ⟨rfl, List.forall_mem_cons.2 ⟨rfl, List.forall_mem_cons.2 ⟨rfl, List.forall_mem_cons.2 ⟨rfl, List.forall_mem_cons.2 ⟨rfl, fun _ h => by cases h⟩⟩⟩⟩⟩⟩⟩⟩⟩⟩⟩⟩⟩⟩⟩⟩) (fun WF bf zf => ?_)
      have BF := hide bf
      have HBF : Hid (Below w.heap.size w WF) := HB5.out.trans (zf.below (Nat.le_refl _) HB5.out.size)
      have LF : Hid (RcLie WF w.heap.size WF.heap.size ⟨4, ⟨zT, none, 0, none, 0⟩, ⟨#[]⟩, false, c4⟩) := (LC5.out.zn zf (Or.inr (by have := S2.out; omega))).mono (by have := S2.out; omega) (Nat.le_trans S5.out zf.size)
      clear BX5 LC5 B5 HB5 bf zf
      go_wp2
      have q0_ := BF.out.c0
      have q1_ := BF.out.c1
      have q2_ := BF.out.c2
      have q3_ := BF.out.c3
      have q4_ := BF.out.c4
      have q5_ := BF.out.c5
      have q6_ := BF.out.c6
      have q7_ := BF.out.c7
      have q8_ := BF.out.c8
      have q9_ := BF.out.c9
      have q10_ := BF.out.c10
      have q11_ := BF.out.c11
      have q12_ := BF.out.c12
      have q13_ := BF.out.c13
      have q14_ := BF.out.c14
      have q15_ := BF.out.c15
      refine bodyPost_ret (v := .tuple #[.agg #[.int .i64 4, .int .i64 0, .int .i64 0, .int .i64 0, .int .i64 0, .slice none 0 0, .slice none 0 0, .bool false, .string ⟨#[]⟩, .string ⟨#[]⟩, .bool false, .slice c4.va c4.vs.length c4.vc, .slice c4.pa c4.ps.length c4.pc, .slice c4.qa c4.qs.length c4.qc, .int .i64 c4.cs, .int .i64 c4.nx], .bool true]) (by simp [results, Tryz.results10, go_sem, q0_, q1_, q2_, q3_, q4_, q5_, q6_, q7_, q8_, q9_, q10_, q11_, q12_, q13_, q14_, q15_]) rfl ⟨_, SR.out, HBF.out, Or.inl ⟨HRB.out, HST.out, rfl, LF.out⟩⟩
    ·have hbn : (!(sb.toList == t.toList)) = true := by
      rw [Bool.not_eq_true', beq_eq_false_iff_ne]
      exact fun e => hst (toList_inj e)
     have HN : Hid (¬ (recB ⟨4, ⟨zT, none, 0, none, 0⟩, ⟨#[]⟩, false, c4⟩ = true ∧ sealB ⟨(rcL ⟨4, ⟨zT, none, 0, none, 0⟩, ⟨#[]⟩, false, c4⟩).toArray⟩ = t)) := fun h => hst (by rw [← HSB.out]; exact h.2)
     clear hst HSB BX5 LC5 S5
     as_aux_lemma =>
      go_upto_region 15 with fail
      refine wp_region_lit ?_
      refine wpList_plain rfl fun K hK => ?_
      go_simp
      refine hK _ _ ?_
      clear hK K
      refine wpStore16K (.int .i64 0) (.int .i64 0) (.int .i64 0) (.int .i64 0) (.int .i64 0) (.slice none 0 0) (.slice none 0 0) (.bool false) (.string ⟨#[]⟩) (.string ⟨#[]⟩) (.bool false) (.slice none 0 0) (.slice none 0 0) (.slice none 0 0) (.int .i64 0) (.int .i64 0) rfl 44 _ _ rfl (by kernel_rfl) (by kernel_rfl) (by kernel_rfl) B5.out (List.forall_mem_cons.2 ⟨rfl, List.forall_mem_cons.2 ⟨rfl, List.forall_mem_cons.2 ⟨rfl, List.forall_mem_cons.2 ⟨rfl, List.forall_mem_cons.2 ⟨rfl, List.forall_mem_cons.2 ⟨rfl, List.forall_mem_cons.2 ⟨rfl, List.forall_mem_cons.2 ⟨rfl, List.forall_mem_cons.2 ⟨rfl, List.forall_mem_cons.2 ⟨rfl, List.forall_mem_cons.2 ⟨rfl, List.forall_mem_cons.2 ⟨rfl, List.forall_mem_cons.2 ⟨rfl, List.forall_mem_cons.2 ⟨rfl, List.forall_mem_cons.2 ⟨rfl, List.forall_mem_cons.2 ⟨rfl, fun _ h => by cases h⟩⟩⟩⟩⟩⟩⟩⟩⟩⟩⟩⟩⟩⟩⟩⟩) (fun WF bf zf => ?_)
      have BF := hide bf
      have HBF : Hid (Below w.heap.size w WF) := HB5.out.trans (zf.below (Nat.le_refl _) HB5.out.size)
      clear B5 HB5 bf zf
      go_wp2
      have q0_ := BF.out.c0
      have q1_ := BF.out.c1
      have q2_ := BF.out.c2
      have q3_ := BF.out.c3
      have q4_ := BF.out.c4
      have q5_ := BF.out.c5
      have q6_ := BF.out.c6
      have q7_ := BF.out.c7
      have q8_ := BF.out.c8
      have q9_ := BF.out.c9
      have q10_ := BF.out.c10
      have q11_ := BF.out.c11
      have q12_ := BF.out.c12
      have q13_ := BF.out.c13
      have q14_ := BF.out.c14
      have q15_ := BF.out.c15
      refine bodyPost_ret (v := .tuple #[.agg #[.int .i64 0, .int .i64 0, .int .i64 0, .int .i64 0, .int .i64 0, .slice none 0 0, .slice none 0 0, .bool false, .string ⟨#[]⟩, .string ⟨#[]⟩, .bool false, .slice none 0 0, .slice none 0 0, .slice none 0 0, .int .i64 0, .int .i64 0], .bool false]) (by simp [results, Tryz.results10, go_sem, q0_, q1_, q2_, q3_, q4_, q5_, q6_, q7_, q8_, q9_, q10_, q11_, q12_, q13_, q14_, q15_]) rfl ⟨_, SR.out, HBF.out, Or.inr ⟨HN.out, rfl⟩⟩

end Go.Proofs.YtpnnncfbodfnhaaGreatDoor
