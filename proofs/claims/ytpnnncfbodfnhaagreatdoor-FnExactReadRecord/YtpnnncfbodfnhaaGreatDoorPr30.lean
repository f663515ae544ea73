/- What a textReader does: a record. -/
import Derived.Test.YtpnnncfbodfnhaaGreatDoorPr29
namespace Go.Proofs.YtpnnncfbodfnhaaGreatDoor
open Go.RowKit
open KM
open VM
attribute [local go_sem ↓] Go.wp_at_zero Go.wp_at_succ

set_option maxRecDepth 100000 in
set_option maxHeartbeats 4000000 in
theorem irc1 (x : ByteArray) (g : Nat) (p : Int) (hs : x.size ≤ 1048576) (q1 : Nat) (hn : rN x p = some (1, q1)) (w : World) (hd : Rd w g x p) :
  Calls Tryz.prog 38 #[.pointer (some ⟨g, 0, none⟩)] w fun e w' => w.grownBy w' (some g) ∧ ((e = .panicked PAN ∧ rRc x p = none) ∨ ∃ s q c, rRc x p = some (s, q) ∧ q ≤ x.size ∧ e = .returned (.agg #[.int .i64 c.k, .int .i64 c.t.t.id, .int .i64 c.t.t.st, .int .i64 c.t.t.snap, .int .i64 c.t.t.cs, .slice c.t.ra c.t.t.rs.length c.t.rc, .slice c.t.wa c.t.t.ws.length c.t.wc, .bool c.t.t.out, .string c.t.t.nm, .string c.nm, .bool c.yes, .slice c.b.va c.b.vs.length c.b.vc, .slice c.b.pa c.b.ps.length c.b.pc, .slice c.b.qa c.b.qs.length c.b.qc, .int .i64 c.b.cs, .int .i64 c.b.nx]) ∧ RcSame s c ∧ RcLie w' w.heap.size w'.heap.size c ∧ Rd w' g x (q : Int)) := by
 have hgl := hd.lt
 have HN := hide hn
 have HD0 : Hid (Rd (w.alloc (.cells #[.int .i64 0, .int .i64 0, .int .i64 0, .int .i64 0, .int .i64 0, .slice none 0 0, .slice none 0 0, .bool false, .string ⟨#[]⟩, .string ⟨#[]⟩, .bool false, .slice none 0 0, .slice none 0 0, .slice none 0 0, .int .i64 0, .int .i64 0] 44)) g x p) := hd.alloc _
 have BR0 : Hid (Bx (w.alloc (.cells #[.int .i64 0, .int .i64 0, .int .i64 0, .int .i64 0, .int .i64 0, .slice none 0 0, .slice none 0 0, .bool false, .string ⟨#[]⟩, .string ⟨#[]⟩, .bool false, .slice none 0 0, .slice none 0 0, .slice none 0 0, .int .i64 0, .int .i64 0] 44)) w.heap.size [.int .i64 0, .int .i64 0, .int .i64 0, .int .i64 0, .int .i64 0, .slice none 0 0, .slice none 0 0, .bool false, .string ⟨#[]⟩, .string ⟨#[]⟩, .bool false, .slice none 0 0, .slice none 0 0, .slice none 0 0, .int .i64 0, .int .i64 0]) := Bx.new w [.int .i64 0, .int .i64 0, .int .i64 0, .int .i64 0, .int .i64 0, .slice none 0 0, .slice none 0 0, .bool false, .string ⟨#[]⟩, .string ⟨#[]⟩, .bool false, .slice none 0 0, .slice none 0 0, .slice none 0 0, .int .i64 0, .int .i64 0] 44
 have HG0 : Hid (w.grownBy (w.alloc (.cells #[.int .i64 0, .int .i64 0, .int .i64 0, .int .i64 0, .int .i64 0, .slice none 0 0, .slice none 0 0, .bool false, .string ⟨#[]⟩, .string ⟨#[]⟩, .bool false, .slice none 0 0, .slice none 0 0, .slice none 0 0, .int .i64 0, .int .i64 0] 44)) (some g)) := grown_below _ ((belowRefl w).alloc (Nat.le_refl _) _)
 have hgz : w.heap.size ≠ g := by omega
 clear hd hn
 go_enter Tryz.func38, Tryz.ntmps38
 go_wp2_with fail
 generalize hWW : (w.alloc (.cells #[.int .i64 0, .int .i64 0, .int .i64 0, .int .i64 0, .int .i64 0, .slice none 0 0, .slice none 0 0, .bool false, .string ⟨#[]⟩, .string ⟨#[]⟩, .bool false, .slice none 0 0, .slice none 0 0, .slice none 0 0, .int .i64 0, .int .i64 0] 44)) = W0 at HD0 BR0 HG0 ⊢
 have SZ : Hid (W0.heap.size = w.heap.size + 1) := by show _ = _; rw [← hWW]; exact World.size_alloc _ _
 clear hWW
 have K0 : Hid (w.heap.size + 1 ≤ W0.heap.size) := by show _ ≤ _; rw [SZ.out]; exact Nat.le_refl _
 clear SZ
 refine (inum_yes x g _ hs 1 q1 HN.out _ HD0.out).mono ?_
 rintro e w1 ⟨rfl, hd, hg⟩
 have HD1 := hide hd
 have BR1 := hide (BR0.out.grown hg hgz)
 have HG1 := hide (grown_trans HG0.out hg)
 have K1 : Hid (w.heap.size + 1 ≤ w1.heap.size) := Nat.le_trans K0.out hg.size
 clear hd hg HD0 BR0 HG0
 have hb1 : Below w1.heap.size w1 (w1.alloc (.cells #[.int .i64 1, .int .i64 0, .int .i64 0, .int .i64 0, .int .i64 0, .slice none 0 0, .slice none 0 0, .bool false, .string ⟨#[]⟩, .string ⟨#[]⟩, .bool false, .slice none 0 0, .slice none 0 0, .slice none 0 0, .int .i64 0, .int .i64 0] 44)) := (belowRefl w1).alloc (Nat.le_refl _) _
 have HD2 : Hid (Rd (w1.alloc (.cells #[.int .i64 1, .int .i64 0, .int .i64 0, .int .i64 0, .int .i64 0, .slice none 0 0, .slice none 0 0, .bool false, .string ⟨#[]⟩, .string ⟨#[]⟩, .bool false, .slice none 0 0, .slice none 0 0, .slice none 0 0, .int .i64 0, .int .i64 0] 44)) g x (q1 : Int)) := HD1.out.below hb1
 have BR2 : Hid (Bx (w1.alloc (.cells #[.int .i64 1, .int .i64 0, .int .i64 0, .int .i64 0, .int .i64 0, .slice none 0 0, .slice none 0 0, .bool false, .string ⟨#[]⟩, .string ⟨#[]⟩, .bool false, .slice none 0 0, .slice none 0 0, .slice none 0 0, .int .i64 0, .int .i64 0] 44)) w.heap.size [.int .i64 0, .int .i64 0, .int .i64 0, .int .i64 0, .int .i64 0, .slice none 0 0, .slice none 0 0, .bool false, .string ⟨#[]⟩, .string ⟨#[]⟩, .bool false, .slice none 0 0, .slice none 0 0, .slice none 0 0, .int .i64 0, .int .i64 0]) := BR1.out.below hb1
 have HG2 : Hid (w.grownBy (w1.alloc (.cells #[.int .i64 1, .int .i64 0, .int .i64 0, .int .i64 0, .int .i64 0, .slice none 0 0, .slice none 0 0, .bool false, .string ⟨#[]⟩, .string ⟨#[]⟩, .bool false, .slice none 0 0, .slice none 0 0, .slice none 0 0, .int .i64 0, .int .i64 0] 44)) (some g)) := grown_trans HG1.out (grown_below _ hb1)
 have BX2 : Hid (Bx (w1.alloc (.cells #[.int .i64 1, .int .i64 0, .int .i64 0, .int .i64 0, .int .i64 0, .slice none 0 0, .slice none 0 0, .bool false, .string ⟨#[]⟩, .string ⟨#[]⟩, .bool false, .slice none 0 0, .slice none 0 0, .slice none 0 0, .int .i64 0, .int .i64 0] 44)) w1.heap.size [.int .i64 1, .int .i64 0, .int .i64 0, .int .i64 0, .int .i64 0, .slice none 0 0, .slice none 0 0, .bool false, .string ⟨#[]⟩, .string ⟨#[]⟩, .bool false, .slice none 0 0, .slice none 0 0, .slice none 0 0, .int .i64 0, .int .i64 0]) := Bx.new w1 [.int .i64 1, .int .i64 0, .int .i64 0, .int .i64 0, .int .i64 0, .slice none 0 0, .slice none 0 0, .bool false, .string ⟨#[]⟩, .string ⟨#[]⟩, .bool false, .slice none 0 0, .slice none 0 0, .slice none 0 0, .int .i64 0, .int .i64 0] 44
 have S2 : Hid (w1.heap.size + 1 ≤ (w1.alloc (.cells #[.int .i64 1, .int .i64 0, .int .i64 0, .int .i64 0, .int .i64 0, .slice none 0 0, .slice none 0 0, .bool false, .string ⟨#[]⟩, .string ⟨#[]⟩, .bool false, .slice none 0 0, .slice none 0 0, .slice none 0 0, .int .i64 0, .int .i64 0] 44)).heap.size) := by show _ ≤ _; rw [World.size_alloc]; exact Nat.le_refl _
 clear hb1 HD1 BR1 HG1
 have u0 := BX2.out.c0
 go_wp2_with fail
 generalize hWW : (w1.alloc (.cells #[.int .i64 1, .int .i64 0, .int .i64 0, .int .i64 0, .int .i64 0, .slice none 0 0, .slice none 0 0, .bool false, .string ⟨#[]⟩, .string ⟨#[]⟩, .bool false, .slice none 0 0, .slice none 0 0, .slice none 0 0, .int .i64 0, .int .i64 0] 44)) = W1 at *
 clear hWW u0
 refine (itx x g _ hs _ HD2.out).mono ?_
 rintro e w2 ⟨hg, ⟨rfl, hx⟩ | ⟨t, q2, ra, rc, wa, wk, hx, hq, rfl, hl, hd⟩⟩
 ·have HX : Hid (rRc x p = none) := by show _ = _; simp only [rRc, HN.out, hx]; rfl
  have HGx := hide (grown_trans HG2.out hg)
  clear hg hx
  go_wp2
  exact ⟨rfl, HGx.out, Or.inl ⟨rfl, HX.out⟩⟩
 have HT : Hid (rRc x p = if recB (rcT 1 t) = true then some (rcT 1 t, q2) else none) := by show _ = _; simp only [rRc, HN.out, hx]; rfl
 have HTr : Hid (txnB t = true) := rTx_right _ _ _ hx
 have SM : Hid (RcSame (rcT 1 t) ⟨1, ⟨t, ra, rc, wa, wk⟩, ⟨#[]⟩, false, zB⟩) := ⟨rfl, rfl, rfl, rfl, ⟨rfl, rfl, rfl, rfl, rfl⟩⟩
 have HQ := hide hq
 have hne : w1.heap.size ≠ g := by have := HD2.out.lt; have := hgl; have := K1.out; omega
 have hne2 : w1.heap.size ≠ w.heap.size := by have := K1.out; omega
 have SL : Hid (w1.heap.size + 1 ≤ W1.heap.size) := S2.out
 have L2 : Hid (TLie w2 W1.heap.size w2.heap.size t ra rc wa wk) := hl
 have Z2 : Hid (W1.heap.size ≤ w2.heap.size) := hg.size
 replace BR2 := hide (BR2.out.grown hg hgz)
 replace BX2 := hide (BX2.out.grown hg hne)
 replace HG2 := hide (grown_trans HG2.out hg)
 replace HD2 := hide hd
 clear hx hq hl hd hg
 have u0 := BX2.out.c0
 have fu0 := BX2.out.fz 0
 have u1 := BX2.out.c1
 have fu1 := BX2.out.fz 1
 have u2 := BX2.out.c2
 have fu2 := BX2.out.fz 2
 have u3 := BX2.out.c3
 have fu3 := BX2.out.fz 3
 have u4 := BX2.out.c4
 have fu4 := BX2.out.fz 4
 have u5 := BX2.out.c5
 have fu5 := BX2.out.fz 5
 have u6 := BX2.out.c6
 have fu6 := BX2.out.fz 6
 have u7 := BX2.out.c7
 have fu7 := BX2.out.fz 7
 have u8 := BX2.out.c8
 have fu8 := BX2.out.fz 8
 go_upto_region 10 with fail
 clear u0 fu0 u1 fu1 u2 fu2 u3 fu3 u4 fu4 u5 fu5 u6 fu6 u7 fu7 u8 fu8
 replace BR2 : Hid (Bx ((((((((w2.setCell ⟨w1.heap.size, 1, none⟩ (.int .i64 t.id)).setCell ⟨w1.heap.size, 2, none⟩ (.int .i64 t.st)).setCell ⟨w1.heap.size, 3, none⟩ (.int .i64 t.snap)).setCell ⟨w1.heap.size, 4, none⟩ (.int .i64 t.cs)).setCell ⟨w1.heap.size, 5, none⟩ (.slice ra t.rs.length rc)).setCell ⟨w1.heap.size, 6, none⟩ (.slice wa t.ws.length wk)).setCell ⟨w1.heap.size, 7, none⟩ (.bool t.out)).setCell ⟨w1.heap.size, 8, none⟩ (.string t.nm)) w.heap.size [.int .i64 0, .int .i64 0, .int .i64 0, .int .i64 0, .int .i64 0, .slice none 0 0, .slice none 0 0, .bool false, .string ⟨#[]⟩, .string ⟨#[]⟩, .bool false, .slice none 0 0, .slice none 0 0, .slice none 0 0, .int .i64 0, .int .i64 0]) := (((((((BR2.out.setO (p := ⟨w1.heap.size, 1, none⟩) hne2 _).setO (p := ⟨w1.heap.size, 2, none⟩) hne2 _).setO (p := ⟨w1.heap.size, 3, none⟩) hne2 _).setO (p := ⟨w1.heap.size, 4, none⟩) hne2 _).setO (p := ⟨w1.heap.size, 5, none⟩) hne2 _).setO (p := ⟨w1.heap.size, 6, none⟩) hne2 _).setO (p := ⟨w1.heap.size, 7, none⟩) hne2 _).setO (p := ⟨w1.heap.size, 8, none⟩) hne2 _
 replace BX2 : Hid (Bx ((((((((w2.setCell ⟨w1.heap.size, 1, none⟩ (.int .i64 t.id)).setCell ⟨w1.heap.size, 2, none⟩ (.int .i64 t.st)).setCell ⟨w1.heap.size, 3, none⟩ (.int .i64 t.snap)).setCell ⟨w1.heap.size, 4, none⟩ (.int .i64 t.cs)).setCell ⟨w1.heap.size, 5, none⟩ (.slice ra t.rs.length rc)).setCell ⟨w1.heap.size, 6, none⟩ (.slice wa t.ws.length wk)).setCell ⟨w1.heap.size, 7, none⟩ (.bool t.out)).setCell ⟨w1.heap.size, 8, none⟩ (.string t.nm)) w1.heap.size [.int .i64 1, .int .i64 t.id, .int .i64 t.st, .int .i64 t.snap, .int .i64 t.cs, .slice ra t.rs.length rc, .slice wa t.ws.length wk, .bool t.out, .string t.nm, .string ⟨#[]⟩, .bool false, .slice none 0 0, .slice none 0 0, .slice none 0 0, .int .i64 0, .int .i64 0]) := (((((((BX2.out.set 1 _).set 2 _).set 3 _).set 4 _).set 5 _).set 6 _).set 7 _).set 8 _
 replace HD2 : Hid (Rd ((((((((w2.setCell ⟨w1.heap.size, 1, none⟩ (.int .i64 t.id)).setCell ⟨w1.heap.size, 2, none⟩ (.int .i64 t.st)).setCell ⟨w1.heap.size, 3, none⟩ (.int .i64 t.snap)).setCell ⟨w1.heap.size, 4, none⟩ (.int .i64 t.cs)).setCell ⟨w1.heap.size, 5, none⟩ (.slice ra t.rs.length rc)).setCell ⟨w1.heap.size, 6, none⟩ (.slice wa t.ws.length wk)).setCell ⟨w1.heap.size, 7, none⟩ (.bool t.out)).setCell ⟨w1.heap.size, 8, none⟩ (.string t.nm)) g x (q2 : Int)) := (((((((HD2.out.setO (p := ⟨w1.heap.size, 1, none⟩) hne _).setO (p := ⟨w1.heap.size, 2, none⟩) hne _).setO (p := ⟨w1.heap.size, 3, none⟩) hne _).setO (p := ⟨w1.heap.size, 4, none⟩) hne _).setO (p := ⟨w1.heap.size, 5, none⟩) hne _).setO (p := ⟨w1.heap.size, 6, none⟩) hne _).setO (p := ⟨w1.heap.size, 7, none⟩) hne _).setO (p := ⟨w1.heap.size, 8, none⟩) hne _
 replace HG2 : Hid (w.grownBy ((((((((w2.setCell ⟨w1.heap.size, 1, none⟩ (.int .i64 t.id)).setCell ⟨w1.heap.size, 2, none⟩ (.int .i64 t.st)).setCell ⟨w1.heap.size, 3, none⟩ (.int .i64 t.snap)).setCell ⟨w1.heap.size, 4, none⟩ (.int .i64 t.cs)).setCell ⟨w1.heap.size, 5, none⟩ (.slice ra t.rs.length rc)).setCell ⟨w1.heap.size, 6, none⟩ (.slice wa t.ws.length wk)).setCell ⟨w1.heap.size, 7, none⟩ (.bool t.out)).setCell ⟨w1.heap.size, 8, none⟩ (.string t.nm)) (some g)) := grown_belowB HG2.out (((((((((Below.refl w.heap.size w2).setCell (p := ⟨w1.heap.size, 1, none⟩) (by have := K1.out; show w.heap.size ≤ w1.heap.size; omega) _).setCell (p := ⟨w1.heap.size, 2, none⟩) (by have := K1.out; show w.heap.size ≤ w1.heap.size; omega) _).setCell (p := ⟨w1.heap.size, 3, none⟩) (by have := K1.out; show w.heap.size ≤ w1.heap.size; omega) _).setCell (p := ⟨w1.heap.size, 4, none⟩) (by have := K1.out; show w.heap.size ≤ w1.heap.size; omega) _).setCell (p := ⟨w1.heap.size, 5, none⟩) (by have := K1.out; show w.heap.size ≤ w1.heap.size; omega) _).setCell (p := ⟨w1.heap.size, 6, none⟩) (by have := K1.out; show w.heap.size ≤ w1.heap.size; omega) _).setCell (p := ⟨w1.heap.size, 7, none⟩) (by have := K1.out; show w.heap.size ≤ w1.heap.size; omega) _).setCell (p := ⟨w1.heap.size, 8, none⟩) (by have := K1.out; show w.heap.size ≤ w1.heap.size; omega) _) (Nat.le_refl _)
 replace L2 : Hid (TLie ((((((((w2.setCell ⟨w1.heap.size, 1, none⟩ (.int .i64 t.id)).setCell ⟨w1.heap.size, 2, none⟩ (.int .i64 t.st)).setCell ⟨w1.heap.size, 3, none⟩ (.int .i64 t.snap)).setCell ⟨w1.heap.size, 4, none⟩ (.int .i64 t.cs)).setCell ⟨w1.heap.size, 5, none⟩ (.slice ra t.rs.length rc)).setCell ⟨w1.heap.size, 6, none⟩ (.slice wa t.ws.length wk)).setCell ⟨w1.heap.size, 7, none⟩ (.bool t.out)).setCell ⟨w1.heap.size, 8, none⟩ (.string t.nm)) W1.heap.size w2.heap.size t ra rc wa wk) := (((((((L2.out.set (a := ⟨w1.heap.size, 1, none⟩) (by have := SL.out; show w1.heap.size < _; omega) _).set (a := ⟨w1.heap.size, 2, none⟩) (by have := SL.out; show w1.heap.size < _; omega) _).set (a := ⟨w1.heap.size, 3, none⟩) (by have := SL.out; show w1.heap.size < _; omega) _).set (a := ⟨w1.heap.size, 4, none⟩) (by have := SL.out; show w1.heap.size < _; omega) _).set (a := ⟨w1.heap.size, 5, none⟩) (by have := SL.out; show w1.heap.size < _; omega) _).set (a := ⟨w1.heap.size, 6, none⟩) (by have := SL.out; show w1.heap.size < _; omega) _).set (a := ⟨w1.heap.size, 7, none⟩) (by have := SL.out; show w1.heap.size < _; omega) _).set (a := ⟨w1.heap.size, 8, none⟩) (by have := SL.out; show w1.heap.size < _; omega) _
 have Z3 : Hid (w2.heap.size ≤ ((((((((w2.setCell ⟨w1.heap.size, 1, none⟩ (.int .i64 t.id)).setCell ⟨w1.heap.size, 2, none⟩ (.int .i64 t.st)).setCell ⟨w1.heap.size, 3, none⟩ (.int .i64 t.snap)).setCell ⟨w1.heap.size, 4, none⟩ (.int .i64 t.cs)).setCell ⟨w1.heap.size, 5, none⟩ (.slice ra t.rs.length rc)).setCell ⟨w1.heap.size, 6, none⟩ (.slice wa t.ws.length wk)).setCell ⟨w1.heap.size, 7, none⟩ (.bool t.out)).setCell ⟨w1.heap.size, 8, none⟩ (.string t.nm)).heap.size) := by show _ ≤ _; simp [World.setCell]
 generalize ((((((((w2.setCell ⟨w1.heap.size, 1, none⟩ (.int .i64 t.id)).setCell ⟨w1.heap.size, 2, none⟩ (.int .i64 t.st)).setCell ⟨w1.heap.size, 3, none⟩ (.int .i64 t.snap)).setCell ⟨w1.heap.size, 4, none⟩ (.int .i64 t.cs)).setCell ⟨w1.heap.size, 5, none⟩ (.slice ra t.rs.length rc)).setCell ⟨w1.heap.size, 6, none⟩ (.slice wa t.ws.length wk)).setCell ⟨w1.heap.size, 7, none⟩ (.bool t.out)).setCell ⟨w1.heap.size, 8, none⟩ (.string t.nm)) = w3 at *
 have LC : Hid (RcLie w3 W1.heap.size w3.heap.size ⟨1, ⟨t, ra, rc, wa, wk⟩, ⟨#[]⟩, false, zB⟩) := ⟨w2.heap.size, Z2.out, Z3.out, L2.out, zBlie _ _ _ Z3.out⟩
 have FT : Hid (RcFit ⟨1, ⟨t, ra, rc, wa, wk⟩, ⟨#[]⟩, false, zB⟩) := ⟨small_fit (right_small HTr.out), by show 0 ≤ _; omega, zB_fit⟩
 as_aux_lemma =>
  have C1 : Hid (∀ W, RcRows W ⟨1, ⟨t, ra, rc, wa, wk⟩, ⟨#[]⟩, false, zB⟩ → Calls Tryz.prog 81 #[.agg #[.int .i64 1, .int .i64 t.id, .int .i64 t.st, .int .i64 t.snap, .int .i64 t.cs, .slice ra t.rs.length rc, .slice wa t.ws.length wk, .bool t.out, .string t.nm, .string ⟨#[]⟩, .bool false, .slice none 0 0, .slice none 0 0, .slice none 0 0, .int .i64 0, .int .i64 0]] W fun e w' => e = .returned (.bool (recB (rcT 1 t))) ∧ Below W.heap.size W w') := fun W h => by
   have k := irec ⟨1, ⟨t, ra, rc, wa, wk⟩, ⟨#[]⟩, false, zB⟩ FT.out zB_none.1 zB_none.2 W h
   rw [rec_same SM.out] at k
   exact k
  have HRw : Hid (RcRows w3 ⟨1, ⟨t, ra, rc, wa, wk⟩, ⟨#[]⟩, false, zB⟩) := LC.out.rows
  have u0 := BX2.out.c0
  have u1 := BX2.out.c1
  have u2 := BX2.out.c2
  have u3 := BX2.out.c3
  have u4 := BX2.out.c4
  have u5 := BX2.out.c5
  have u6 := BX2.out.c6
  have u7 := BX2.out.c7
  have u8 := BX2.out.c8
  have u9 := BX2.out.c9
  have u10 := BX2.out.c10
  have u11 := BX2.out.c11
  have u12 := BX2.out.c12
  have u13 := BX2.out.c13
  have u14 := BX2.out.c14
  have u15 := BX2.out.c15
  go_wp2_with fail
  refine (C1.out _ HRw.out).mono ?_
  rintro e wA ⟨rfl, hb⟩
  have LA := hide (LC.out.below hb)
  have HDA := hide (HD2.out.below hb)
  have BRA := hide (BR2.out.below hb)
  have HGA := hide (grown_trans HG2.out (grown_below (some g) hb))
  have BTA := hide (BX2.out.below hb)
  have SA : Hid (w3.heap.size ≤ wA.heap.size) := hb.size
  clear hb u0 u1 u2 u3 u4 u5 u6 u7 u8 u9 u10 u11 u12 u13 u14 u15
  as_aux_lemma =>
   cases htb : recB (rcT 1 t)
   ·have HX : Hid (rRc x p = none) := by show _ = _; rw [HT.out, htb]; rfl
    clear htb
    go_wp2
    exact ⟨rfl, HGA.out, Or.inl ⟨rfl, HX.out⟩⟩
   have HX : Hid (rRc x p = some ((rcT 1 t), q2)) := by show _ = _; rw [HT.out, htb]; rfl
   clear htb HT
   go_upto_region 12 with fail
   refine wp_region_lit ?_
   refine wpLoad16 rfl 44 _ rfl _ Tryz.underlying44 rfl (by kernel_rfl) (by kernel_rfl) BTA.out ?_
   simp only [Act.put, List.setIfInBounds_toArray, List.set_cons_zero, List.set_cons_succ]
   refine wpStore16K (.int .i64 1) (.int .i64 t.id) (.int .i64 t.st) (.int .i64 t.snap) (.int .i64 t.cs) (.slice ra t.rs.length rc) (.slice wa t.ws.length wk) (.bool t.out) (.string t.nm) (.string ⟨#[]⟩) (.bool false) (.slice none 0 0) (.slice none 0 0) (.slice none 0 0) (.int .i64 0) (.int .i64 0) rfl 44 _ _ rfl (by kernel_rfl) (by kernel_rfl) (by kernel_rfl) BRA.out (List.forall_mem_cons.2 ⟨rfl, List.forall_mem_cons.2 ⟨rfl, List.forall_mem_cons.2 ⟨rfl, List.forall_mem_cons.2 ⟨rfl, List.forall_mem_cons.2 ⟨rfl, List.forall_mem_cons.2 ⟨rfl, List.forall_mem_cons.2 ⟨rfl, List.forall_mem_cons.2 ⟨rfl, List.forall_mem_cons.2 ⟨rfl, List.forall_mem_cons.2 ⟨rfl, List.forall_mem_cons.2 ⟨rfl, List.forall_mem_cons.2 ⟨rfl, List.forall_mem_cons.2 ⟨rfl, List.forall_mem_cons.2 ⟨rfl, List.forall_mem_cons.2 ⟨rfl, List.forall_mem_cons.2 ⟨rfl, fun _ h => by cases h⟩⟩⟩⟩⟩⟩⟩⟩⟩⟩⟩⟩⟩⟩⟩⟩) (fun WF bf zf => ?_)
   have BF := hide bf
   have HGF : Hid (w.grownBy WF (some g)) := grown_belowB HGA.out (zf.below (Nat.le_refl _) HGA.out.size) (Nat.le_refl _)
   have LF : Hid (RcLie WF w.heap.size WF.heap.size ⟨1, ⟨t, ra, rc, wa, wk⟩, ⟨#[]⟩, false, zB⟩) := (LA.out.zn zf (Or.inr (by have := K1.out; have := SL.out; omega))).mono (by have := K1.out; have := SL.out; omega) (Nat.le_trans SA.out zf.size)
   have DF : Hid (Rd WF g x (q2 : Int)) := HDA.out.zn zf (by omega)
   clear BRA LA HDA HGA BTA bf zf
   go_wp2
   have q0_ := BF.out.c0
   have q1_ := BF.out.c1
   have q2_ := BF.out.c2
   have q3_ := BF.out.c3
   have q4_ := BF.out.c4
   have q5_ := BF.out.c5
   have q6_ := BF.out.c6
   have q7_ := BF.out.c7
   have q8_ := BF.out.c8
   have q9_ := BF.out.c9
   have q10_ := BF.out.c10
   have q11_ := BF.out.c11
   have q12_ := BF.out.c12
   have q13_ := BF.out.c13
   have q14_ := BF.out.c14
   have q15_ := BF.out.c15
   refine bodyPost_ret (v := .agg #[.int .i64 1, .int .i64 t.id, .int .i64 t.st, .int .i64 t.snap, .int .i64 t.cs, .slice ra t.rs.length rc, .slice wa t.ws.length wk, .bool t.out, .string t.nm, .string ⟨#[]⟩, .bool false, .slice none 0 0, .slice none 0 0, .slice none 0 0, .int .i64 0, .int .i64 0]) (by simp [results, Tryz.results38, go_sem, q0_, q1_, q2_, q3_, q4_, q5_, q6_, q7_, q8_, q9_, q10_, q11_, q12_, q13_, q14_, q15_]) rfl ⟨HGF.out, Or.inr ⟨(rcT 1 t), q2, ⟨1, ⟨t, ra, rc, wa, wk⟩, ⟨#[]⟩, false, zB⟩, HX.out, HQ.out, rfl, SM.out, LF.out, DF.out⟩⟩

end Go.Proofs.YtpnnncfbodfnhaaGreatDoor

namespace Go.Proofs.YtpnnncfbodfnhaaGreatDoor
open Go.RowKit
open KM
open VM
attribute [local go_sem ↓] Go.wp_at_zero Go.wp_at_succ

set_option maxRecDepth 100000 in
set_option maxHeartbeats 4000000 in
theorem irc2 (x : ByteArray) (g : Nat) (p : Int) (hs : x.size ≤ 1048576) (q1 : Nat) (hn : rN x p = some (2, q1)) (w : World) (hd : Rd w g x p) :
  Calls Tryz.prog 38 #[.pointer (some ⟨g, 0, none⟩)] w fun e w' => w.grownBy w' (some g) ∧ ((e = .panicked PAN ∧ rRc x p = none) ∨ ∃ s q c, rRc x p = some (s, q) ∧ q ≤ x.size ∧ e = .returned (.agg #[.int .i64 c.k, .int .i64 c.t.t.id, .int .i64 c.t.t.st, .int .i64 c.t.t.snap, .int .i64 c.t.t.cs, .slice c.t.ra c.t.t.rs.length c.t.rc, .slice c.t.wa c.t.t.ws.length c.t.wc, .bool c.t.t.out, .string c.t.t.nm, .string c.nm, .bool c.yes, .slice c.b.va c.b.vs.length c.b.vc, .slice c.b.pa c.b.ps.length c.b.pc, .slice c.b.qa c.b.qs.length c.b.qc, .int .i64 c.b.cs, .int .i64 c.b.nx]) ∧ RcSame s c ∧ RcLie w' w.heap.size w'.heap.size c ∧ Rd w' g x (q : Int)) := by
 have hgl := hd.lt
 have HN := hide hn
 have HD0 : Hid (Rd (w.alloc (.cells #[.int .i64 0, .int .i64 0, .int .i64 0, .int .i64 0, .int .i64 0, .slice none 0 0, .slice none 0 0, .bool false, .string ⟨#[]⟩, .string ⟨#[]⟩, .bool false, .slice none 0 0, .slice none 0 0, .slice none 0 0, .int .i64 0, .int .i64 0] 44)) g x p) := hd.alloc _
 have BR0 : Hid (Bx (w.alloc (.cells #[.int .i64 0, .int .i64 0, .int .i64 0, .int .i64 0, .int .i64 0, .slice none 0 0, .slice none 0 0, .bool false, .string ⟨#[]⟩, .string ⟨#[]⟩, .bool false, .slice none 0 0, .slice none 0 0, .slice none 0 0, .int .i64 0, .int .i64 0] 44)) w.heap.size [.int .i64 0, .int .i64 0, .int .i64 0, .int .i64 0, .int .i64 0, .slice none 0 0, .slice none 0 0, .bool false, .string ⟨#[]⟩, .string ⟨#[]⟩, .bool false, .slice none 0 0, .slice none 0 0, .slice none 0 0, .int .i64 0, .int .i64 0]) := Bx.new w [.int .i64 0, .int .i64 0, .int .i64 0, .int .i64 0, .int .i64 0, .slice none 0 0, .slice none 0 0, .bool false, .string ⟨#[]⟩, .string ⟨#[]⟩, .bool false, .slice none 0 0, .slice none 0 0, .slice none 0 0, .int .i64 0, .int .i64 0] 44
 have HG0 : Hid (w.grownBy (w.alloc (.cells #[.int .i64 0, .int .i64 0, .int .i64 0, .int .i64 0, .int .i64 0, .slice none 0 0, .slice none 0 0, .bool false, .string ⟨#[]⟩, .string ⟨#[]⟩, .bool false, .slice none 0 0, .slice none 0 0, .slice none 0 0, .int .i64 0, .int .i64 0] 44)) (some g)) := grown_below _ ((belowRefl w).alloc (Nat.le_refl _) _)
 have hgz : w.heap.size ≠ g := by omega
 clear hd hn
 go_enter Tryz.func38, Tryz.ntmps38
 go_wp2_with fail
 generalize hWW : (w.alloc (.cells #[.int .i64 0, .int .i64 0, .int .i64 0, .int .i64 0, .int .i64 0, .slice none 0 0, .slice none 0 0, .bool false, .string ⟨#[]⟩, .string ⟨#[]⟩, .bool false, .slice none 0 0, .slice none 0 0, .slice none 0 0, .int .i64 0, .int .i64 0] 44)) = W0 at HD0 BR0 HG0 ⊢
 have SZ : Hid (W0.heap.size = w.heap.size + 1) := by show _ = _; rw [← hWW]; exact World.size_alloc _ _
 clear hWW
 have K0 : Hid (w.heap.size + 1 ≤ W0.heap.size) := by show _ ≤ _; rw [SZ.out]; exact Nat.le_refl _
 clear SZ
 refine (inum_yes x g _ hs 2 q1 HN.out _ HD0.out).mono ?_
 rintro e w1 ⟨rfl, hd, hg⟩
 have HD1 := hide hd
 have BR1 := hide (BR0.out.grown hg hgz)
 have HG1 := hide (grown_trans HG0.out hg)
 have K1 : Hid (w.heap.size + 1 ≤ w1.heap.size) := Nat.le_trans K0.out hg.size
 clear hd hg HD0 BR0 HG0
 have hb1 : Below w1.heap.size w1 (w1.alloc (.cells #[.int .i64 2, .int .i64 0, .int .i64 0, .int .i64 0, .int .i64 0, .slice none 0 0, .slice none 0 0, .bool false, .string ⟨#[]⟩, .string ⟨#[]⟩, .bool false, .slice none 0 0, .slice none 0 0, .slice none 0 0, .int .i64 0, .int .i64 0] 44)) := (belowRefl w1).alloc (Nat.le_refl _) _
 have HD2 : Hid (Rd (w1.alloc (.cells #[.int .i64 2, .int .i64 0, .int .i64 0, .int .i64 0, .int .i64 0, .slice none 0 0, .slice none 0 0, .bool false, .string ⟨#[]⟩, .string ⟨#[]⟩, .bool false, .slice none 0 0, .slice none 0 0, .slice none 0 0, .int .i64 0, .int .i64 0] 44)) g x (q1 : Int)) := HD1.out.below hb1
 have BR2 : Hid (Bx (w1.alloc (.cells #[.int .i64 2, .int .i64 0, .int .i64 0, .int .i64 0, .int .i64 0, .slice none 0 0, .slice none 0 0, .bool false, .string ⟨#[]⟩, .string ⟨#[]⟩, .bool false, .slice none 0 0, .slice none 0 0, .slice none 0 0, .int .i64 0, .int .i64 0] 44)) w.heap.size [.int .i64 0, .int .i64 0, .int .i64 0, .int .i64 0, .int .i64 0, .slice none 0 0, .slice none 0 0, .bool false, .string ⟨#[]⟩, .string ⟨#[]⟩, .bool false, .slice none 0 0, .slice none 0 0, .slice none 0 0, .int .i64 0, .int .i64 0]) := BR1.out.below hb1
 have HG2 : Hid (w.grownBy (w1.alloc (.cells #[.int .i64 2, .int .i64 0, .int .i64 0, .int .i64 0, .int .i64 0, .slice none 0 0, .slice none 0 0, .bool false, .string ⟨#[]⟩, .string ⟨#[]⟩, .bool false, .slice none 0 0, .slice none 0 0, .slice none 0 0, .int .i64 0, .int .i64 0] 44)) (some g)) := grown_trans HG1.out (grown_below _ hb1)
 have BX2 : Hid (Bx (w1.alloc (.cells #[.int .i64 2, .int .i64 0, .int .i64 0, .int .i64 0, .int .i64 0, .slice none 0 0, .slice none 0 0, .bool false, .string ⟨#[]⟩, .string ⟨#[]⟩, .bool false, .slice none 0 0, .slice none 0 0, .slice none 0 0, .int .i64 0, .int .i64 0] 44)) w1.heap.size [.int .i64 2, .int .i64 0, .int .i64 0, .int .i64 0, .int .i64 0, .slice none 0 0, .slice none 0 0, .bool false, .string ⟨#[]⟩, .string ⟨#[]⟩, .bool false, .slice none 0 0, .slice none 0 0, .slice none 0 0, .int .i64 0, .int .i64 0]) := Bx.new w1 [.int .i64 2, .int .i64 0, .int .i64 0, .int .i64 0, .int .i64 0, .slice none 0 0, .slice none 0 0, .bool false, .string ⟨#[]⟩, .string ⟨#[]⟩, .bool false, .slice none 0 0, .slice none 0 0, .slice none 0 0, .int .i64 0, .int .i64 0] 44
 have S2 : Hid (w1.heap.size + 1 ≤ (w1.alloc (.cells #[.int .i64 2, .int .i64 0, .int .i64 0, .int .i64 0, .int .i64 0, .slice none 0 0, .slice none 0 0, .bool false, .string ⟨#[]⟩, .string ⟨#[]⟩, .bool false, .slice none 0 0, .slice none 0 0, .slice none 0 0, .int .i64 0, .int .i64 0] 44)).heap.size) := by show _ ≤ _; rw [World.size_alloc]; exact Nat.le_refl _
 clear hb1 HD1 BR1 HG1
 have u0 := BX2.out.c0
 go_wp2_with fail
 generalize hWW : (w1.alloc (.cells #[.int .i64 2, .int .i64 0, .int .i64 0, .int .i64 0, .int .i64 0, .slice none 0 0, .slice none 0 0, .bool false, .string ⟨#[]⟩, .string ⟨#[]⟩, .bool false, .slice none 0 0, .slice none 0 0, .slice none 0 0, .int .i64 0, .int .i64 0] 44)) = W1 at *
 clear hWW u0
 refine (itx x g _ hs _ HD2.out).mono ?_
 rintro e w2 ⟨hg, ⟨rfl, hx⟩ | ⟨t, q2, ra, rc, wa, wk, hx, hq, rfl, hl, hd⟩⟩
 ·have HX : Hid (rRc x p = none) := by show _ = _; simp only [rRc, HN.out, hx]; rfl
  have HGx := hide (grown_trans HG2.out hg)
  clear hg hx
  go_wp2
  exact ⟨rfl, HGx.out, Or.inl ⟨rfl, HX.out⟩⟩
 have HT : Hid (rRc x p = if recB (rcT 2 t) = true then some (rcT 2 t, q2) else none) := by show _ = _; simp only [rRc, HN.out, hx]; rfl
 have HTr : Hid (txnB t = true) := rTx_right _ _ _ hx
 have SM : Hid (RcSame (rcT 2 t) ⟨2, ⟨t, ra, rc, wa, wk⟩, ⟨#[]⟩, false, zB⟩) := ⟨rfl, rfl, rfl, rfl, ⟨rfl, rfl, rfl, rfl, rfl⟩⟩
 have HQ := hide hq
 have hne : w1.heap.size ≠ g := by have := HD2.out.lt; have := hgl; have := K1.out; omega
 have hne2 : w1.heap.size ≠ w.heap.size := by have := K1.out; omega
 have SL : Hid (w1.heap.size + 1 ≤ W1.heap.size) := S2.out
 have L2 : Hid (TLie w2 W1.heap.size w2.heap.size t ra rc wa wk) := hl
 have Z2 : Hid (W1.heap.size ≤ w2.heap.size) := hg.size
 replace BR2 := hide (BR2.out.grown hg hgz)
 replace BX2 := hide (BX2.out.grown hg hne)
 replace HG2 := hide (grown_trans HG2.out hg)
 replace HD2 := hide hd
 clear hx hq hl hd hg
 have u0 := BX2.out.c0
 have fu0 := BX2.out.fz 0
 have u1 := BX2.out.c1
 have fu1 := BX2.out.fz 1
 have u2 := BX2.out.c2
 have fu2 := BX2.out.fz 2
 have u3 := BX2.out.c3
 have fu3 := BX2.out.fz 3
 have u4 := BX2.out.c4
 have fu4 := BX2.out.fz 4
 have u5 := BX2.out.c5
 have fu5 := BX2.out.fz 5
 have u6 := BX2.out.c6
 have fu6 := BX2.out.fz 6
 have u7 := BX2.out.c7
 have fu7 := BX2.out.fz 7
 have u8 := BX2.out.c8
 have fu8 := BX2.out.fz 8
 go_upto_region 10 with fail
 clear u0 fu0 u1 fu1 u2 fu2 u3 fu3 u4 fu4 u5 fu5 u6 fu6 u7 fu7 u8 fu8
 replace BR2 : Hid (Bx ((((((((w2.setCell ⟨w1.heap.size, 1, none⟩ (.int .i64 t.id)).setCell ⟨w1.heap.size, 2, none⟩ (.int .i64 t.st)).setCell ⟨w1.heap.size, 3, none⟩ (.int .i64 t.snap)).setCell ⟨w1.heap.size, 4, none⟩ (.int .i64 t.cs)).setCell ⟨w1.heap.size, 5, none⟩ (.slice ra t.rs.length rc)).setCell ⟨w1.heap.size, 6, none⟩ (.slice wa t.ws.length wk)).setCell ⟨w1.heap.size, 7, none⟩ (.bool t.out)).setCell ⟨w1.heap.size, 8, none⟩ (.string t.nm)) w.heap.size [.int .i64 0, .int .i64 0, .int .i64 0, .int .i64 0, .int .i64 0, .slice none 0 0, .slice none 0 0, .bool false, .string ⟨#[]⟩, .string ⟨#[]⟩, .bool false, .slice none 0 0, .slice none 0 0, .slice none 0 0, .int .i64 0, .int .i64 0]) := (((((((BR2.out.setO (p := ⟨w1.heap.size, 1, none⟩) hne2 _).setO (p := ⟨w1.heap.size, 2, none⟩) hne2 _).setO (p := ⟨w1.heap.size, 3, none⟩) hne2 _).setO (p := ⟨w1.heap.size, 4, none⟩) hne2 _).setO (p := ⟨w1.heap.size, 5, none⟩) hne2 _).setO (p := ⟨w1.heap.size, 6, none⟩) hne2 _).setO (p := ⟨w1.heap.size, 7, none⟩) hne2 _).setO (p := ⟨w1.heap.size, 8, none⟩) hne2 _
 replace BX2 : Hid (Bx ((((((((w2.setCell ⟨w1.heap.size, 1, none⟩ (.int .i64 t.id)).setCell ⟨w1.heap.size, 2, none⟩ (.int .i64 t.st)).setCell ⟨w1.heap.size, 3, none⟩ (.int .i64 t.snap)).setCell ⟨w1.heap.size, 4, none⟩ (.int .i64 t.cs)).setCell ⟨w1.heap.size, 5, none⟩ (.slice ra t.rs.length rc)).setCell ⟨w1.heap.size, 6, none⟩ (.slice wa t.ws.length wk)).setCell ⟨w1.heap.size, 7, none⟩ (.bool t.out)).setCell ⟨w1.heap.size, 8, none⟩ (.string t.nm)) w1.heap.size [.int .i64 2, .int .i64 t.id, .int .i64 t.st, .int .i64 t.snap, .int .i64 t.cs, .slice ra t.rs.length rc, .slice wa t.ws.length wk, .bool t.out, .string t.nm, .string ⟨#[]⟩, .bool false, .slice none 0 0, .slice none 0 0, .slice none 0 0, .int .i64 0, .int .i64 0]) := (((((((BX2.out.set 1 _).set 2 _).set 3 _).set 4 _).set 5 _).set 6 _).set 7 _).set 8 _
 replace HD2 : Hid (Rd ((((((((w2.setCell ⟨w1.heap.size, 1, none⟩ (.int .i64 t.id)).setCell ⟨w1.heap.size, 2, none⟩ (.int .i64 t.st)).setCell ⟨w1.heap.size, 3, none⟩ (.int .i64 t.snap)).setCell ⟨w1.heap.size, 4, none⟩ (.int .i64 t.cs)).setCell ⟨w1.heap.size, 5, none⟩ (.slice ra t.rs.length rc)).setCell ⟨w1.heap.size, 6, none⟩ (.slice wa t.ws.length wk)).setCell ⟨w1.heap.size, 7, none⟩ (.bool t.out)).setCell ⟨w1.heap.size, 8, none⟩ (.string t.nm)) g x (q2 : Int)) := (((((((HD2.out.setO (p := ⟨w1.heap.size, 1, none⟩) hne _).setO (p := ⟨w1.heap.size, 2, none⟩) hne _).setO (p := ⟨w1.heap.size, 3, none⟩) hne _).setO (p := ⟨w1.heap.size, 4, none⟩) hne _).setO (p := ⟨w1.heap.size, 5, none⟩) hne _).setO (p := ⟨w1.heap.size, 6, none⟩) hne _).setO (p := ⟨w1.heap.size, 7, none⟩) hne _).setO (p := ⟨w1.heap.size, 8, none⟩) hne _
 replace HG2 : Hid (w.grownBy ((((((((w2.setCell ⟨w1.heap.size, 1, none⟩ (.int .i64 t.id)).setCell ⟨w1.heap.size, 2, none⟩ (.int .i64 t.st)).setCell ⟨w1.heap.size, 3, none⟩ (.int .i64 t.snap)).setCell ⟨w1.heap.size, 4, none⟩ (.int .i64 t.cs)).setCell ⟨w1.heap.size, 5, none⟩ (.slice ra t.rs.length rc)).setCell ⟨w1.heap.size, 6, none⟩ (.slice wa t.ws.length wk)).setCell ⟨w1.heap.size, 7, none⟩ (.bool t.out)).setCell ⟨w1.heap.size, 8, none⟩ (.string t.nm)) (some g)) := grown_belowB HG2.out (((((((((Below.refl w.heap.size w2).setCell (p := ⟨w1.heap.size, 1, none⟩) (by have := K1.out; show w.heap.size ≤ w1.heap.size; omega) _).setCell (p := ⟨w1.heap.size, 2, none⟩) (by have := K1.out; show w.heap.size ≤ w1.heap.size; omega) _).setCell (p := ⟨w1.heap.size, 3, none⟩) (by have := K1.out; show w.heap.size ≤ w1.heap.size; omega) _).setCell (p := ⟨w1.heap.size, 4, none⟩) (by have := K1.out; show w.heap.size ≤ w1.heap.size; omega) _).setCell (p := ⟨w1.heap.size, 5, none⟩) (by have := K1.out; show w.heap.size ≤ w1.heap.size; omega) _).setCell (p := ⟨w1.heap.size, 6, none⟩) (by have := K1.out; show w.heap.size ≤ w1.heap.size; omega) _).setCell (p := ⟨w1.heap.size, 7, none⟩) (by have := K1.out; show w.heap.size ≤ w1.heap.size; omega) _).setCell (p := ⟨w1.heap.size, 8, none⟩) (by have := K1.out; show w.heap.size ≤ w1.heap.size; omega) _) (Nat.le_refl _)
 replace L2 : Hid (TLie ((((((((w2.setCell ⟨w1.heap.size, 1, none⟩ (.int .i64 t.id)).setCell ⟨w1.heap.size, 2, none⟩ (.int .i64 t.st)).setCell ⟨w1.heap.size, 3, none⟩ (.int .i64 t.snap)).setCell ⟨w1.heap.size, 4, none⟩ (.int .i64 t.cs)).setCell ⟨w1.heap.size, 5, none⟩ (.slice ra t.rs.length rc)).setCell ⟨w1.heap.size, 6, none⟩ (.slice wa t.ws.length wk)).setCell ⟨w1.heap.size, 7, none⟩ (.bool t.out)).setCell ⟨w1.heap.size, 8, none⟩ (.string t.nm)) W1.heap.size w2.heap.size t ra rc wa wk) := (((((((L2.out.set (a := ⟨w1.heap.size, 1, none⟩) (by have := SL.out; show w1.heap.size < _; omega) _).set (a := ⟨w1.heap.size, 2, none⟩) (by have := SL.out; show w1.heap.size < _; omega) _).set (a := ⟨w1.heap.size, 3, none⟩) (by have := SL.out; show w1.heap.size < _; omega) _).set (a := ⟨w1.heap.size, 4, none⟩) (by have := SL.out; show w1.heap.size < _; omega) _).set (a := ⟨w1.heap.size, 5, none⟩) (by have := SL.out; show w1.heap.size < _; omega) _).set (a := ⟨w1.heap.size, 6, none⟩) (by have := SL.out; show w1.heap.size < _; omega) _).set (a := ⟨w1.heap.size, 7, none⟩) (by have := SL.out; show w1.heap.size < _; omega) _).set (a := ⟨w1.heap.size, 8, none⟩) (by have := SL.out; show w1.heap.size < _; omega) _
 have Z3 : Hid (w2.heap.size ≤ ((((((((w2.setCell ⟨w1.heap.size, 1, none⟩ (.int .i64 t.id)).setCell ⟨w1.heap.size, 2, none⟩ (.int .i64 t.st)).setCell ⟨w1.heap.size, 3, none⟩ (.int .i64 t.snap)).setCell ⟨w1.heap.size, 4, none⟩ (.int .i64 t.cs)).setCell ⟨w1.heap.size, 5, none⟩ (.slice ra t.rs.length rc)).setCell ⟨w1.heap.size, 6, none⟩ (.slice wa t.ws.length wk)).setCell ⟨w1.heap.size, 7, none⟩ (.bool t.out)).setCell ⟨w1.heap.size, 8, none⟩ (.string t.nm)).heap.size) := by show _ ≤ _; simp [World.setCell]
 generalize ((((((((w2.setCell ⟨w1.heap.size, 1, none⟩ (.int .i64 t.id)).setCell ⟨w1.heap.size, 2, none⟩ (.int .i64 t.st)).setCell ⟨w1.heap.size, 3, none⟩ (.int .i64 t.snap)).setCell ⟨w1.heap.size, 4, none⟩ (.int .i64 t.cs)).setCell ⟨w1.heap.size, 5, none⟩ (.slice ra t.rs.length rc)).setCell ⟨w1.heap.size, 6, none⟩ (.slice wa t.ws.length wk)).setCell ⟨w1.heap.size, 7, none⟩ (.bool t.out)).setCell ⟨w1.heap.size, 8, none⟩ (.string t.nm)) = w3 at *
 have LC : Hid (RcLie w3 W1.heap.size w3.heap.size ⟨2, ⟨t, ra, rc, wa, wk⟩, ⟨#[]⟩, false, zB⟩) := ⟨w2.heap.size, Z2.out, Z3.out, L2.out, zBlie _ _ _ Z3.out⟩
 have FT : Hid (RcFit ⟨2, ⟨t, ra, rc, wa, wk⟩, ⟨#[]⟩, false, zB⟩) := ⟨small_fit (right_small HTr.out), by show 0 ≤ _; omega, zB_fit⟩
 as_aux_lemma =>
  have C1 : Hid (∀ W, RcRows W ⟨2, ⟨t, ra, rc, wa, wk⟩, ⟨#[]⟩, false, zB⟩ → Calls Tryz.prog 81 #[.agg #[.int .i64 2, .int .i64 t.id, .int .i64 t.st, .int .i64 t.snap, .int .i64 t.cs, .slice ra t.rs.length rc, .slice wa t.ws.length wk, .bool t.out, .string t.nm, .string ⟨#[]⟩, .bool false, .slice none 0 0, .slice none 0 0, .slice none 0 0, .int .i64 0, .int .i64 0]] W fun e w' => e = .returned (.bool (recB (rcT 2 t))) ∧ Below W.heap.size W w') := fun W h => by
   have k := irec ⟨2, ⟨t, ra, rc, wa, wk⟩, ⟨#[]⟩, false, zB⟩ FT.out zB_none.1 zB_none.2 W h
   rw [rec_same SM.out] at k
   exact k
  have HRw : Hid (RcRows w3 ⟨2, ⟨t, ra, rc, wa, wk⟩, ⟨#[]⟩, false, zB⟩) := LC.out.rows
  have u0 := BX2.out.c0
  have u1 := BX2.out.c1
  have u2 := BX2.out.c2
  have u3 := BX2.out.c3
  have u4 := BX2.out.c4
  have u5 := BX2.out.c5
  have u6 := BX2.out.c6
  have u7 := BX2.out.c7
  have u8 := BX2.out.c8
  have u9 := BX2.out.c9
  have u10 := BX2.out.c10
  have u11 := BX2.out.c11
  have u12 := BX2.out.c12
  have u13 := BX2.out.c13
  have u14 := BX2.out.c14
  have u15 := BX2.out.c15
  go_wp2_with fail
  refine (C1.out _ HRw.out).mono ?_
  rintro e wA ⟨rfl, hb⟩
  have LA := hide (LC.out.below hb)
  have HDA := hide (HD2.out.below hb)
  have BRA := hide (BR2.out.below hb)
  have HGA := hide (grown_trans HG2.out (grown_below (some g) hb))
  have BTA := hide (BX2.out.below hb)
  have SA : Hid (w3.heap.size ≤ wA.heap.size) := hb.size
  clear hb u0 u1 u2 u3 u4 u5 u6 u7 u8 u9 u10 u11 u12 u13 u14 u15
  as_aux_lemma =>
   cases htb : recB (rcT 2 t)
   ·have HX : Hid (rRc x p = none) := by show _ = _; rw [HT.out, htb]; rfl
    clear htb
    go_wp2
    exact ⟨rfl, HGA.out, Or.inl ⟨rfl, HX.out⟩⟩
   have HX : Hid (rRc x p = some ((rcT 2 t), q2)) := by show _ = _; rw [HT.out, htb]; rfl
   clear htb HT
   go_upto_region 12 with fail
   refine wp_region_lit ?_
   refine wpLoad16 rfl 44 _ rfl _ Tryz.underlying44 rfl (by kernel_rfl) (by kernel_rfl) BTA.out ?_
   simp only [Act.put, List.setIfInBounds_toArray, List.set_cons_zero, List.set_cons_succ]
   refine wpStore16K (.int .i64 2) (.int .i64 t.id) (.int .i64 t.st) (.int .i64 t.snap) (.int .i64 t.cs) (.slice ra t.rs.length rc) (.slice wa t.ws.length wk) (.bool t.out) (.string t.nm) (.string ⟨#[]⟩) (.bool false) (.slice none 0 0) (.slice none 0 0) (.slice none 0 0) (.int .i64 0) (.int .i64 0) rfl 44 _ _ rfl (by kernel_rfl) (by kernel_rfl) (by kernel_rfl) BRA.out (List.forall_mem_cons.2 ⟨rfl, List.forall_mem_cons.2 ⟨rfl, List.forall_mem_cons.2 ⟨rfl, List.forall_mem_cons.2 ⟨rfl, List.forall_mem_cons.2 ⟨rfl, List.forall_mem_cons.2 ⟨rfl, List.forall_mem_cons.2 ⟨rfl, List.forall_mem_cons.2 ⟨rfl, List.forall_mem_cons.2 ⟨rfl, List.forall_mem_cons.2 ⟨rfl, List.forall_mem_cons.2 ⟨rfl, List.forall_mem_cons.2 ⟨rfl, List.forall_mem_cons.2 ⟨rfl, List.forall_mem_cons.2 ⟨rfl, List.forall_mem_cons.2 ⟨rfl, List.forall_mem_cons.2 ⟨rfl, fun _ h => by cases h⟩⟩⟩⟩⟩⟩⟩⟩⟩⟩⟩⟩⟩⟩⟩⟩) (fun WF bf zf => ?_)
   have BF := hide bf
   have HGF : Hid (w.grownBy WF (some g)) := grown_belowB HGA.out (zf.below (Nat.le_refl _) HGA.out.size) (Nat.le_refl _)
   have LF : Hid (RcLie WF w.heap.size WF.heap.size ⟨2, ⟨t, ra, rc, wa, wk⟩, ⟨#[]⟩, false, zB⟩) := (LA.out.zn zf (Or.inr (by have := K1.out; have := SL.out; omega))).mono (by have := K1.out; have := SL.out; omega) (Nat.le_trans SA.out zf.size)
   have DF : Hid (Rd WF g x (q2 : Int)) := HDA.out.zn zf (by omega)
   clear BRA LA HDA HGA BTA bf zf
   go_wp2
   have q0_ := BF.out.c0
   have q1_ := BF.out.c1
   have q2_ := BF.out.c2
   have q3_ := BF.out.c3
   have q4_ := BF.out.c4
   have q5_ := BF.out.c5
   have q6_ := BF.out.c6
   have q7_ := BF.out.c7
   have q8_ := BF.out.c8
   have q9_ := BF.out.c9
   have q10_ := BF.out.c10
   have q11_ := BF.out.c11
   have q12_ := BF.out.c12
   have q13_ := BF.out.c13
   have q14_ := BF.out.c14
   have q15_ := BF.out.c15
   refine bodyPost_ret (v := .agg #[.int .i64 2, .int .i64 t.id, .int .i64 t.st, .int .i64 t.snap, .int .i64 t.cs, .slice ra t.rs.length rc, .slice wa t.ws.length wk, .bool t.out, .string t.nm, .string ⟨#[]⟩, .bool false, .slice none 0 0, .slice none 0 0, .slice none 0 0, .int .i64 0, .int .i64 0]) (by simp [results, Tryz.results38, go_sem, q0_, q1_, q2_, q3_, q4_, q5_, q6_, q7_, q8_, q9_, q10_, q11_, q12_, q13_, q14_, q15_]) rfl ⟨HGF.out, Or.inr ⟨(rcT 2 t), q2, ⟨2, ⟨t, ra, rc, wa, wk⟩, ⟨#[]⟩, false, zB⟩, HX.out, HQ.out, rfl, SM.out, LF.out, DF.out⟩⟩

end Go.Proofs.YtpnnncfbodfnhaaGreatDoor
