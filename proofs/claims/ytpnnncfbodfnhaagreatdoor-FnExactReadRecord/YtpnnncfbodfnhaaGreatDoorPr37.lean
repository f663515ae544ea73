/- What spec.ReadRecord returns: of one that looks and changes. -/
import Derived.Test.YtpnnncfbodfnhaaGreatDoorPr35
import Derived.Test.YtpnnncfbodfnhaaGreatDoorPr36
namespace Go.Proofs.YtpnnncfbodfnhaaGreatDoor
open Go.RowKit
open KM
open VM
attribute [local go_sem ↓] Go.wp_at_zero Go.wp_at_succ

set_option maxRecDepth 100000 in
set_option maxHeartbeats 4000000 in
theorem srrT (t u : ByteArray) (K : Nat) (hs : u.size ≤ 1048576) (hu : 0 < u.size) (hK : u[0].toNat = K) (k3 : K ≠ 3) (k4 : K ≠ 4) (w : World) (CU : Hid (∀ W, Below w.heap.size w W → Calls Tryz.prog 30 #[.string t] W fun e w' => e = .returned (.tuple #[.string u, .bool true]) ∧ Below W.heap.size W w')) :
  Calls Tryz.prog 10 #[.string t] w fun e w' => ∃ r, sRc u K r ∧ Below w.heap.size w w' ∧ ((recB r = true ∧ sealB ⟨(rcL r).toArray⟩ = t ∧ e = .returned (.tuple #[.agg #[.int .i64 r.k, .int .i64 r.t.t.id, .int .i64 r.t.t.st, .int .i64 r.t.t.snap, .int .i64 r.t.t.cs, .slice r.t.ra r.t.t.rs.length r.t.rc, .slice r.t.wa r.t.t.ws.length r.t.wc, .bool r.t.t.out, .string r.t.t.nm, .string r.nm, .bool r.yes, .slice r.b.va r.b.vs.length r.b.vc, .slice r.b.pa r.b.ps.length r.b.pc, .slice r.b.qa r.b.qs.length r.b.qc, .int .i64 r.b.cs, .int .i64 r.b.nx], .bool true]) ∧ RcLie w' w.heap.size w'.heap.size r) ∨ (¬ (recB r = true ∧ sealB ⟨(rcL r).toArray⟩ = t) ∧ e = .returned (.tuple #[.agg #[.int .i64 0, .int .i64 0, .int .i64 0, .int .i64 0, .int .i64 0, .slice none 0 0, .slice none 0 0, .bool false, .string ⟨#[]⟩, .string ⟨#[]⟩, .bool false, .slice none 0 0, .slice none 0 0, .slice none 0 0, .int .i64 0, .int .i64 0], .bool false]))) := by
 obtain ⟨t1, q1, o1, ha⟩ : ∃ t1 q1 o1, ansT (rTx u 1) = (t1, q1, o1) := ⟨_, _, _, rfl⟩
 have HA := hide ha
 have CS : Hid (∀ W, Calls Tryz.prog 34 #[.string u, .int .i64 1] W fun e w' => ∃ ra rc wa wc, e = .returned (.tuple #[.agg #[.int .i64 t1.id, .int .i64 t1.st, .int .i64 t1.snap, .int .i64 t1.cs, .slice ra t1.rs.length rc, .slice wa t1.ws.length wc, .bool t1.out, .string t1.nm], .int .i64 (q1 : Int), .bool o1]) ∧ TLie w' W.heap.size w'.heap.size t1 ra rc wa wc ∧ Below W.heap.size W w') := fun W => srt u 1 hs t1 q1 o1 ha W
 clear ha
 have hne0 : u.toList.isEmpty = false := by
  cases h : u.toList.isEmpty
  ·rfl
  ·have := empty_size h
   omega
 have hu0 : (0 : Int) < (u.size : Int) := by omega
 have hK2 : K < 256 := by rw [← hK]; exact UInt8.toNat_lt _
 have hwk : wrap64 (K : Int) = (K : Int) := by unfold wrap64; omega
 have e3 : ((K : Int) == 3) = false := by simp; omega
 have e4 : ((K : Int) == 4) = false := by simp; omega
 have B0 : Hid (Bx (w.alloc (.cells #[.int .i64 0, .int .i64 0, .int .i64 0, .int .i64 0, .int .i64 0, .slice none 0 0, .slice none 0 0, .bool false, .string ⟨#[]⟩, .string ⟨#[]⟩, .bool false, .slice none 0 0, .slice none 0 0, .slice none 0 0, .int .i64 0, .int .i64 0] 44)) w.heap.size [.int .i64 0, .int .i64 0, .int .i64 0, .int .i64 0, .int .i64 0, .slice none 0 0, .slice none 0 0, .bool false, .string ⟨#[]⟩, .string ⟨#[]⟩, .bool false, .slice none 0 0, .slice none 0 0, .slice none 0 0, .int .i64 0, .int .i64 0]) := Bx.new w [.int .i64 0, .int .i64 0, .int .i64 0, .int .i64 0, .int .i64 0, .slice none 0 0, .slice none 0 0, .bool false, .string ⟨#[]⟩, .string ⟨#[]⟩, .bool false, .slice none 0 0, .slice none 0 0, .slice none 0 0, .int .i64 0, .int .i64 0] 44
 have HB0 : Hid (Below w.heap.size w (w.alloc (.cells #[.int .i64 0, .int .i64 0, .int .i64 0, .int .i64 0, .int .i64 0, .slice none 0 0, .slice none 0 0, .bool false, .string ⟨#[]⟩, .string ⟨#[]⟩, .bool false, .slice none 0 0, .slice none 0 0, .slice none 0 0, .int .i64 0, .int .i64 0] 44))) := (belowRefl w).alloc (Nat.le_refl _) _
 go_enter Tryz.func10, Tryz.ntmps10
 go_wp2_with fail
 generalize (w.alloc (.cells #[.int .i64 0, .int .i64 0, .int .i64 0, .int .i64 0, .int .i64 0, .slice none 0 0, .slice none 0 0, .bool false, .string ⟨#[]⟩, .string ⟨#[]⟩, .bool false, .slice none 0 0, .slice none 0 0, .slice none 0 0, .int .i64 0, .int .i64 0] 44)) = W0 at B0 HB0 ⊢
 refine (CU.out _ HB0.out).mono ?_
 rintro e w1 ⟨rfl, hb⟩
 have B1 := hide (B0.out.below hb)
 have HB1 : Hid (Below w.heap.size w w1) := HB0.out.trans (hb.mono HB0.out.size)
 clear hb B0 HB0
 have hb1 : Below w1.heap.size w1 (w1.alloc (.cells #[.int .i64 (K : Int), .int .i64 0, .int .i64 0, .int .i64 0, .int .i64 0, .slice none 0 0, .slice none 0 0, .bool false, .string ⟨#[]⟩, .string ⟨#[]⟩, .bool false, .slice none 0 0, .slice none 0 0, .slice none 0 0, .int .i64 0, .int .i64 0] 44)) := (belowRefl w1).alloc (Nat.le_refl _) _
 have B2 : Hid (Bx (w1.alloc (.cells #[.int .i64 (K : Int), .int .i64 0, .int .i64 0, .int .i64 0, .int .i64 0, .slice none 0 0, .slice none 0 0, .bool false, .string ⟨#[]⟩, .string ⟨#[]⟩, .bool false, .slice none 0 0, .slice none 0 0, .slice none 0 0, .int .i64 0, .int .i64 0] 44)) w.heap.size [.int .i64 0, .int .i64 0, .int .i64 0, .int .i64 0, .int .i64 0, .slice none 0 0, .slice none 0 0, .bool false, .string ⟨#[]⟩, .string ⟨#[]⟩, .bool false, .slice none 0 0, .slice none 0 0, .slice none 0 0, .int .i64 0, .int .i64 0]) := B1.out.below hb1
 have HB2 : Hid (Below w.heap.size w (w1.alloc (.cells #[.int .i64 (K : Int), .int .i64 0, .int .i64 0, .int .i64 0, .int .i64 0, .slice none 0 0, .slice none 0 0, .bool false, .string ⟨#[]⟩, .string ⟨#[]⟩, .bool false, .slice none 0 0, .slice none 0 0, .slice none 0 0, .int .i64 0, .int .i64 0] 44))) := HB1.out.trans (hb1.mono HB1.out.size)
 have BX2 : Hid (Bx (w1.alloc (.cells #[.int .i64 (K : Int), .int .i64 0, .int .i64 0, .int .i64 0, .int .i64 0, .slice none 0 0, .slice none 0 0, .bool false, .string ⟨#[]⟩, .string ⟨#[]⟩, .bool false, .slice none 0 0, .slice none 0 0, .slice none 0 0, .int .i64 0, .int .i64 0] 44)) w1.heap.size [.int .i64 (K : Int), .int .i64 0, .int .i64 0, .int .i64 0, .int .i64 0, .slice none 0 0, .slice none 0 0, .bool false, .string ⟨#[]⟩, .string ⟨#[]⟩, .bool false, .slice none 0 0, .slice none 0 0, .slice none 0 0, .int .i64 0, .int .i64 0]) := Bx.new w1 [.int .i64 (K : Int), .int .i64 0, .int .i64 0, .int .i64 0, .int .i64 0, .slice none 0 0, .slice none 0 0, .bool false, .string ⟨#[]⟩, .string ⟨#[]⟩, .bool false, .slice none 0 0, .slice none 0 0, .slice none 0 0, .int .i64 0, .int .i64 0] 44
 have S2 : Hid (w.heap.size < w1.heap.size) := B1.out.lt
 have S3 : Hid (w1.heap.size + 1 = (w1.alloc (.cells #[.int .i64 (K : Int), .int .i64 0, .int .i64 0, .int .i64 0, .int .i64 0, .slice none 0 0, .slice none 0 0, .bool false, .string ⟨#[]⟩, .string ⟨#[]⟩, .bool false, .slice none 0 0, .slice none 0 0, .slice none 0 0, .int .i64 0, .int .i64 0] 44)).heap.size) := by show _ = _; rw [World.size_alloc]
 clear hb1 B1 HB1
 have u0 := BX2.out.c0
 go_wp2_with fail
 generalize hWW : (w1.alloc (.cells #[.int .i64 (K : Int), .int .i64 0, .int .i64 0, .int .i64 0, .int .i64 0, .slice none 0 0, .slice none 0 0, .bool false, .string ⟨#[]⟩, .string ⟨#[]⟩, .bool false, .slice none 0 0, .slice none 0 0, .slice none 0 0, .int .i64 0, .int .i64 0] 44)) = W1 at *
 clear hWW u0
 refine (CS.out _).mono ?_
 rintro e w2 ⟨ra, rc, wa, wk, rfl, hl, hb⟩
 have hne2 : w1.heap.size ≠ w.heap.size := by have := S2.out; omega
 replace B2 := hide (B2.out.below hb)
 replace BX2 := hide (BX2.out.below hb)
 replace HB2 : Hid (Below w.heap.size w w2) := HB2.out.trans (hb.mono HB2.out.size)
 have L2 : Hid (TLie w2 W1.heap.size w2.heap.size t1 ra rc wa wk) := hl
 have Z2 : Hid (W1.heap.size ≤ w2.heap.size) := hb.size
 clear hl hb
 have u0 := BX2.out.c0
 have fu0 := BX2.out.fz 0
 have u1 := BX2.out.c1
 have fu1 := BX2.out.fz 1
 have u2 := BX2.out.c2
 have fu2 := BX2.out.fz 2
 have u3 := BX2.out.c3
 have fu3 := BX2.out.fz 3
 have u4 := BX2.out.c4
 have fu4 := BX2.out.fz 4
 have u5 := BX2.out.c5
 have fu5 := BX2.out.fz 5
 have u6 := BX2.out.c6
 have fu6 := BX2.out.fz 6
 have u7 := BX2.out.c7
 have fu7 := BX2.out.fz 7
 have u8 := BX2.out.c8
 have fu8 := BX2.out.fz 8
 go_upto_region 13 with fail
 clear u0 fu0 u1 fu1 u2 fu2 u3 fu3 u4 fu4 u5 fu5 u6 fu6 u7 fu7 u8 fu8
 replace B2 : Hid (Bx ((((((((w2.setCell ⟨w1.heap.size, 1, none⟩ (.int .i64 t1.id)).setCell ⟨w1.heap.size, 2, none⟩ (.int .i64 t1.st)).setCell ⟨w1.heap.size, 3, none⟩ (.int .i64 t1.snap)).setCell ⟨w1.heap.size, 4, none⟩ (.int .i64 t1.cs)).setCell ⟨w1.heap.size, 5, none⟩ (.slice ra t1.rs.length rc)).setCell ⟨w1.heap.size, 6, none⟩ (.slice wa t1.ws.length wk)).setCell ⟨w1.heap.size, 7, none⟩ (.bool t1.out)).setCell ⟨w1.heap.size, 8, none⟩ (.string t1.nm)) w.heap.size [.int .i64 0, .int .i64 0, .int .i64 0, .int .i64 0, .int .i64 0, .slice none 0 0, .slice none 0 0, .bool false, .string ⟨#[]⟩, .string ⟨#[]⟩, .bool false, .slice none 0 0, .slice none 0 0, .slice none 0 0, .int .i64 0, .int .i64 0]) := (((((((B2.out.setO (p := ⟨w1.heap.size, 1, none⟩) hne2 _).setO (p := ⟨w1.heap.size, 2, none⟩) hne2 _).setO (p := ⟨w1.heap.size, 3, none⟩) hne2 _).setO (p := ⟨w1.heap.size, 4, none⟩) hne2 _).setO (p := ⟨w1.heap.size, 5, none⟩) hne2 _).setO (p := ⟨w1.heap.size, 6, none⟩) hne2 _).setO (p := ⟨w1.heap.size, 7, none⟩) hne2 _).setO (p := ⟨w1.heap.size, 8, none⟩) hne2 _
 replace BX2 : Hid (Bx ((((((((w2.setCell ⟨w1.heap.size, 1, none⟩ (.int .i64 t1.id)).setCell ⟨w1.heap.size, 2, none⟩ (.int .i64 t1.st)).setCell ⟨w1.heap.size, 3, none⟩ (.int .i64 t1.snap)).setCell ⟨w1.heap.size, 4, none⟩ (.int .i64 t1.cs)).setCell ⟨w1.heap.size, 5, none⟩ (.slice ra t1.rs.length rc)).setCell ⟨w1.heap.size, 6, none⟩ (.slice wa t1.ws.length wk)).setCell ⟨w1.heap.size, 7, none⟩ (.bool t1.out)).setCell ⟨w1.heap.size, 8, none⟩ (.string t1.nm)) w1.heap.size [.int .i64 (K : Int), .int .i64 t1.id, .int .i64 t1.st, .int .i64 t1.snap, .int .i64 t1.cs, .slice ra t1.rs.length rc, .slice wa t1.ws.length wk, .bool t1.out, .string t1.nm, .string ⟨#[]⟩, .bool false, .slice none 0 0, .slice none 0 0, .slice none 0 0, .int .i64 0, .int .i64 0]) := (((((((BX2.out.set 1 _).set 2 _).set 3 _).set 4 _).set 5 _).set 6 _).set 7 _).set 8 _
 replace HB2 : Hid (Below w.heap.size w ((((((((w2.setCell ⟨w1.heap.size, 1, none⟩ (.int .i64 t1.id)).setCell ⟨w1.heap.size, 2, none⟩ (.int .i64 t1.st)).setCell ⟨w1.heap.size, 3, none⟩ (.int .i64 t1.snap)).setCell ⟨w1.heap.size, 4, none⟩ (.int .i64 t1.cs)).setCell ⟨w1.heap.size, 5, none⟩ (.slice ra t1.rs.length rc)).setCell ⟨w1.heap.size, 6, none⟩ (.slice wa t1.ws.length wk)).setCell ⟨w1.heap.size, 7, none⟩ (.bool t1.out)).setCell ⟨w1.heap.size, 8, none⟩ (.string t1.nm))) := (((((((HB2.out.setCell (p := ⟨w1.heap.size, 1, none⟩) (by have := S2.out; show w.heap.size ≤ w1.heap.size; omega) _).setCell (p := ⟨w1.heap.size, 2, none⟩) (by have := S2.out; show w.heap.size ≤ w1.heap.size; omega) _).setCell (p := ⟨w1.heap.size, 3, none⟩) (by have := S2.out; show w.heap.size ≤ w1.heap.size; omega) _).setCell (p := ⟨w1.heap.size, 4, none⟩) (by have := S2.out; show w.heap.size ≤ w1.heap.size; omega) _).setCell (p := ⟨w1.heap.size, 5, none⟩) (by have := S2.out; show w.heap.size ≤ w1.heap.size; omega) _).setCell (p := ⟨w1.heap.size, 6, none⟩) (by have := S2.out; show w.heap.size ≤ w1.heap.size; omega) _).setCell (p := ⟨w1.heap.size, 7, none⟩) (by have := S2.out; show w.heap.size ≤ w1.heap.size; omega) _).setCell (p := ⟨w1.heap.size, 8, none⟩) (by have := S2.out; show w.heap.size ≤ w1.heap.size; omega) _
 replace L2 : Hid (TLie ((((((((w2.setCell ⟨w1.heap.size, 1, none⟩ (.int .i64 t1.id)).setCell ⟨w1.heap.size, 2, none⟩ (.int .i64 t1.st)).setCell ⟨w1.heap.size, 3, none⟩ (.int .i64 t1.snap)).setCell ⟨w1.heap.size, 4, none⟩ (.int .i64 t1.cs)).setCell ⟨w1.heap.size, 5, none⟩ (.slice ra t1.rs.length rc)).setCell ⟨w1.heap.size, 6, none⟩ (.slice wa t1.ws.length wk)).setCell ⟨w1.heap.size, 7, none⟩ (.bool t1.out)).setCell ⟨w1.heap.size, 8, none⟩ (.string t1.nm)) W1.heap.size w2.heap.size t1 ra rc wa wk) := (((((((L2.out.set (a := ⟨w1.heap.size, 1, none⟩) (by have := S3.out; show w1.heap.size < _; omega) _).set (a := ⟨w1.heap.size, 2, none⟩) (by have := S3.out; show w1.heap.size < _; omega) _).set (a := ⟨w1.heap.size, 3, none⟩) (by have := S3.out; show w1.heap.size < _; omega) _).set (a := ⟨w1.heap.size, 4, none⟩) (by have := S3.out; show w1.heap.size < _; omega) _).set (a := ⟨w1.heap.size, 5, none⟩) (by have := S3.out; show w1.heap.size < _; omega) _).set (a := ⟨w1.heap.size, 6, none⟩) (by have := S3.out; show w1.heap.size < _; omega) _).set (a := ⟨w1.heap.size, 7, none⟩) (by have := S3.out; show w1.heap.size < _; omega) _).set (a := ⟨w1.heap.size, 8, none⟩) (by have := S3.out; show w1.heap.size < _; omega) _
 have Z3 : Hid (w2.heap.size ≤ ((((((((w2.setCell ⟨w1.heap.size, 1, none⟩ (.int .i64 t1.id)).setCell ⟨w1.heap.size, 2, none⟩ (.int .i64 t1.st)).setCell ⟨w1.heap.size, 3, none⟩ (.int .i64 t1.snap)).setCell ⟨w1.heap.size, 4, none⟩ (.int .i64 t1.cs)).setCell ⟨w1.heap.size, 5, none⟩ (.slice ra t1.rs.length rc)).setCell ⟨w1.heap.size, 6, none⟩ (.slice wa t1.ws.length wk)).setCell ⟨w1.heap.size, 7, none⟩ (.bool t1.out)).setCell ⟨w1.heap.size, 8, none⟩ (.string t1.nm)).heap.size) := by show _ ≤ _; simp [World.setCell]
 generalize ((((((((w2.setCell ⟨w1.heap.size, 1, none⟩ (.int .i64 t1.id)).setCell ⟨w1.heap.size, 2, none⟩ (.int .i64 t1.st)).setCell ⟨w1.heap.size, 3, none⟩ (.int .i64 t1.snap)).setCell ⟨w1.heap.size, 4, none⟩ (.int .i64 t1.cs)).setCell ⟨w1.heap.size, 5, none⟩ (.slice ra t1.rs.length rc)).setCell ⟨w1.heap.size, 6, none⟩ (.slice wa t1.ws.length wk)).setCell ⟨w1.heap.size, 7, none⟩ (.bool t1.out)).setCell ⟨w1.heap.size, 8, none⟩ (.string t1.nm)) = w3 at *
 have LC0 : Hid (RcLie w3 W1.heap.size w3.heap.size ⟨(K : Int), ⟨t1, ra, rc, wa, wk⟩, ⟨#[]⟩, false, zB⟩) := ⟨w2.heap.size, Z2.out, Z3.out, L2.out, zBlie _ _ _ Z3.out⟩
 have LC : Hid (RcLie w3 (w1.heap.size + 1) w3.heap.size ⟨(K : Int), ⟨t1, ra, rc, wa, wk⟩, ⟨#[]⟩, false, zB⟩) := by have h := LC0.out; rw [← S3.out] at h; exact h
 have FT : Hid (RcFit ⟨(K : Int), ⟨t1, ra, rc, wa, wk⟩, ⟨#[]⟩, false, zB⟩) := ⟨ansT_fit HA.out, by show 0 ≤ _; omega, zB_fit⟩
 have SR : Hid (sRc u K ⟨(K : Int), ⟨t1, ra, rc, wa, wk⟩, ⟨#[]⟩, false, zB⟩) := Or.inl ⟨k3, k4, t1, q1, o1, HA.out, rfl, rfl, rfl, rfl, ⟨rfl, rfl, rfl, rfl, rfl⟩⟩
 clear L2 Z2 Z3 LC0 HA CS CU
 as_aux_lemma =>
  have HRw : Hid (RcRows w3 ⟨(K : Int), ⟨t1, ra, rc, wa, wk⟩, ⟨#[]⟩, false, zB⟩) := LC.out.rows
  have CC : Hid (∀ W, RcRows W ⟨(K : Int), ⟨t1, ra, rc, wa, wk⟩, ⟨#[]⟩, false, zB⟩ → Calls Tryz.prog 6 #[.agg #[.int .i64 (K : Int), .int .i64 t1.id, .int .i64 t1.st, .int .i64 t1.snap, .int .i64 t1.cs, .slice ra t1.rs.length rc, .slice wa t1.ws.length wk, .bool t1.out, .string t1.nm, .string ⟨#[]⟩, .bool false, .slice none 0 0, .slice none 0 0, .slice none 0 0, .int .i64 0, .int .i64 0]] W fun e w' => e = .returned (rctV ⟨(K : Int), ⟨t1, ra, rc, wa, wk⟩, ⟨#[]⟩, false, zB⟩) ∧ Below W.heap.size W w') := fun W h => srct ⟨(K : Int), ⟨t1, ra, rc, wa, wk⟩, ⟨#[]⟩, false, zB⟩ FT.out W h
  cases hrb : recB ⟨(K : Int), ⟨t1, ra, rc, wa, wk⟩, ⟨#[]⟩, false, zB⟩
  ·have HV : Hid (rctV ⟨(K : Int), ⟨t1, ra, rc, wa, wk⟩, ⟨#[]⟩, false, zB⟩ = .tuple #[.string ⟨#[]⟩, .bool false]) := by show _ = _; unfold rctV; rw [hrb]; rfl
   have HN : Hid (¬ (recB ⟨(K : Int), ⟨t1, ra, rc, wa, wk⟩, ⟨#[]⟩, false, zB⟩ = true ∧ sealB ⟨(rcL ⟨(K : Int), ⟨t1, ra, rc, wa, wk⟩, ⟨#[]⟩, false, zB⟩).toArray⟩ = t)) := fun h => by have := h.1; rw [hrb] at this; cases this
   clear hrb
   rw [HV.out] at CC
   as_aux_lemma =>
    have u0 := BX2.out.c0
    have u1 := BX2.out.c1
    have u2 := BX2.out.c2
    have u3 := BX2.out.c3
    have u4 := BX2.out.c4
    have u5 := BX2.out.c5
    have u6 := BX2.out.c6
    have u7 := BX2.out.c7
    have u8 := BX2.out.c8
    have u9 := BX2.out.c9
    have u10 := BX2.out.c10
    have u11 := BX2.out.c11
    have u12 := BX2.out.c12
    have u13 := BX2.out.c13
    have u14 := BX2.out.c14
    have u15 := BX2.out.c15
    go_wp2_with fail
    refine (CC.out _ HRw.out).mono ?_
    rintro e w5 ⟨rfl, hb⟩
    have B5 := hide (B2.out.below hb)
    have HB5 : Hid (Below w.heap.size w w5) := HB2.out.trans (hb.mono HB2.out.size)
    clear hb u0 u1 u2 u3 u4 u5 u6 u7 u8 u9 u10 u11 u12 u13 u14 u15 BX2 B2 HB2 LC HRw
    go_upto_region 15 with fail
    refine wp_region_lit ?_
    refine wpList_plain rfl fun K hK => ?_
    go_simp
    refine hK _ _ ?_
    clear hK K
    refine wpStore16K (.int .i64 0) (.int .i64 0) (.int .i64 0) (.int .i64 0) (.int .i64 0) (.slice none 0 0) (.slice none 0 0) (.bool false) (.string ⟨#[]⟩) (.string ⟨#[]⟩) (.bool false) (.slice none 0 0) (.slice none 0 0) (.slice none 0 0) (.int .i64 0) (.int .i64 0) rfl 44 _ _ rfl (by kernel_rfl) (by kernel_rfl) (by kernel_rfl) B5.out (List.forall_mem_cons.2 ⟨rfl, List.forall_mem_cons.2 ⟨rfl, List.forall_mem_cons.2 ⟨rfl, List.forall_mem_cons.2 ⟨rfl, List.forall_mem_cons.2 ⟨rfl, List.forall_mem_cons.2 ⟨rfl, List.forall_mem_cons.2 ⟨rfl, List.forall_mem_cons.2 ⟨rfl, List.forall_mem_cons.2 ⟨rfl, List.forall_mem_cons.2 ⟨rfl, List.forall_mem_cons.2 ⟨rfl, List.forall_mem_cons.2 ⟨rfl, List.forall_mem_cons.2 ⟨rfl, List.forall_mem_cons.2 ⟨rfl, List.forall_mem_cons.2 ⟨rfl, List.forall_mem_cons.2 ⟨rfl, fun _ h => by cases h⟩⟩⟩⟩⟩⟩⟩⟩⟩⟩⟩⟩⟩⟩⟩⟩) (fun WF bf zf => ?_)
    have BF := hide bf
    have HBF : Hid (Below w.heap.size w WF) := HB5.out.trans (zf.below (Nat.le_refl _) HB5.out.size)
    clear B5 HB5 bf zf
    go_wp2
    have q0_ := BF.out.c0
    have q1_ := BF.out.c1
    have q2_ := BF.out.c2
    have q3_ := BF.out.c3
    have q4_ := BF.out.c4
    have q5_ := BF.out.c5
    have q6_ := BF.out.c6
    have q7_ := BF.out.c7
    have q8_ := BF.out.c8
    have q9_ := BF.out.c9
    have q10_ := BF.out.c10
    have q11_ := BF.out.c11
    have q12_ := BF.out.c12
    have q13_ := BF.out.c13
    have q14_ := BF.out.c14
    have q15_ := BF.out.c15
    refine bodyPost_ret (v := .tuple #[.agg #[.int .i64 0, .int .i64 0, .int .i64 0, .int .i64 0, .int .i64 0, .slice none 0 0, .slice none 0 0, .bool false, .string ⟨#[]⟩, .string ⟨#[]⟩, .bool false, .slice none 0 0, .slice none 0 0, .slice none 0 0, .int .i64 0, .int .i64 0], .bool false]) (by simp [results, Tryz.results10, go_sem, q0_, q1_, q2_, q3_, q4_, q5_, q6_, q7_, q8_, q9_, q10_, q11_, q12_, q13_, q14_, q15_]) rfl ⟨_, SR.out, HBF.out, Or.inr ⟨HN.out, rfl⟩⟩
  ·have HV : Hid (rctV ⟨(K : Int), ⟨t1, ra, rc, wa, wk⟩, ⟨#[]⟩, false, zB⟩ = .tuple #[.string (sealB ⟨(rcL ⟨(K : Int), ⟨t1, ra, rc, wa, wk⟩, ⟨#[]⟩, false, zB⟩).toArray⟩), .bool true]) := by show _ = _; unfold rctV; rw [hrb]; rfl
   have HRB : Hid (recB ⟨(K : Int), ⟨t1, ra, rc, wa, wk⟩, ⟨#[]⟩, false, zB⟩ = true) := hrb
   clear hrb
   rw [HV.out] at CC
   clear HV
   obtain ⟨sb, HSB⟩ : ∃ sb, Hid (sealB ⟨(rcL ⟨(K : Int), ⟨t1, ra, rc, wa, wk⟩, ⟨#[]⟩, false, zB⟩).toArray⟩ = sb) := ⟨_, rfl⟩
   rw [HSB.out] at CC
   as_aux_lemma =>
    have u0 := BX2.out.c0
    have u1 := BX2.out.c1
    have u2 := BX2.out.c2
    have u3 := BX2.out.c3
    have u4 := BX2.out.c4
    have u5 := BX2.out.c5
    have u6 := BX2.out.c6
    have u7 := BX2.out.c7
    have u8 := BX2.out.c8
    have u9 := BX2.out.c9
    have u10 := BX2.out.c10
    have u11 := BX2.out.c11
    have u12 := BX2.out.c12
    have u13 := BX2.out.c13
    have u14 := BX2.out.c14
    have u15 := BX2.out.c15
    go_wp2_with fail
    refine (CC.out _ HRw.out).mono ?_
    rintro e w5 ⟨rfl, hb⟩
    have B5 := hide (B2.out.below hb)
    have HB5 : Hid (Below w.heap.size w w5) := HB2.out.trans (hb.mono HB2.out.size)
    have BX5 := hide (BX2.out.below hb)
    have LC5 := hide (LC.out.below hb)
    have S5 : Hid (w3.heap.size ≤ w5.heap.size) := hb.size
    clear hb u0 u1 u2 u3 u4 u5 u6 u7 u8 u9 u10 u11 u12 u13 u14 u15 BX2 B2 HB2 LC HRw
    by_cases hst : sb = t
    ·have hbn : (!(sb.toList == t.toList)) = false := by rw [hst]; simp
     have HST : Hid (sealB ⟨(rcL ⟨(K : Int), ⟨t1, ra, rc, wa, wk⟩, ⟨#[]⟩, false, zB⟩).toArray⟩ = t) := by show _ = _; rw [HSB.out]; exact hst
     clear hst HSB
     as_aux_lemma =>
      go_upto_region 16 with fail
      clear hbn
      refine wp_region_lit ?_
      refine wpLoad16 rfl 44 _ rfl _ Tryz.underlying44 rfl (by kernel_rfl) (by kernel_rfl) BX5.out ?_
      simp only [Act.put, List.setIfInBounds_toArray, List.set_cons_zero, List.set_cons_succ]
      refine wpStore16K (.int .i64 (K : Int)) (.int .i64 t1.id) (.int .i64 t1.st) (.int .i64 t1.snap) (.int .i64 t1.cs) (.slice ra t1.rs.length rc) (.slice wa t1.ws.length wk) (.bool t1.out) (.string t1.nm) (.string ⟨#[]⟩) (.bool false) (.slice none 0 0) (.slice none 0 0) (.slice none 0 0) (.int .i64 0) (.int .i64 0) rfl 44 _ _ rfl (by kernel_rfl) (by kernel_rfl) (by kernel_rfl) B5.out (List.forall_mem_cons.2 ⟨rfl, List.forall_mem_cons.2 ⟨rfl, List.forall_mem_cons.2 ⟨rfl, List.forall_mem_cons.2 ⟨rfl, List.forall_mem_cons.2 ⟨rfl, List.forall_mem_cons.2 ⟨rfl, List.forall_mem_cons.2 ⟨rfl, List.forall_mem_cons.2 ⟨rfl, List.forall_mem_cons.2 ⟨rfl, List.forall_mem_cons.2 ⟨rfl, List.forall_mem_cons.2 ⟨rfl, List.forall_mem_cons.2 ⟨rfl, List.forall_mem_cons.2 ⟨rfl, List.forall_mem_cons.2 ⟨rfl, List.forall_mem_cons.2 ⟨rfl, List.forall_mem_cons.2 ⟨rfl, fun _ h => by cases h⟩⟩⟩⟩⟩⟩⟩⟩⟩⟩⟩⟩⟩⟩⟩⟩) (fun WF bf zf => ?_)
      have BF := hide bf
      have HBF : Hid (Below w.heap.size w WF) := HB5.out.trans (zf.below (Nat.le_refl _) HB5.out.size)
      have LF : Hid (RcLie WF w.heap.size WF.heap.size ⟨(K : Int), ⟨t1, ra, rc, wa, wk⟩, ⟨#[]⟩, false, zB⟩) := (LC5.out.zn zf (Or.inr (by have := S2.out; omega))).mono (by have := S2.out; omega) (Nat.le_trans S5.out zf.size)
      clear BX5 LC5 B5 HB5 bf zf
      go_wp2
      have q0_ := BF.out.c0
      have q1_ := BF.out.c1
      have q2_ := BF.out.c2
      have q3_ := BF.out.c3
      have q4_ := BF.out.c4
      have q5_ := BF.out.c5
      have q6_ := BF.out.c6
      have q7_ := BF.out.c7
      have q8_ := BF.out.c8
      have q9_ := BF.out.c9
      have q10_ := BF.out.c10
      have q11_ := BF.out.c11
      have q12_ := BF.out.c12
      have q13_ := BF.out.c13
      have q14_ := BF.out.c14
      have q15_ := BF.out.c15
      refine bodyPost_ret (v := .tuple #[.agg #[.int .i64 (K : Int), .int .i64 t1.id, .int .i64 t1.st, .int .i64 t1.snap, .int .i64 t1.cs, .slice ra t1.rs.length rc, .slice wa t1.ws.length wk, .bool t1.out, .string t1.nm, .string ⟨#[]⟩, .bool false, .slice none 0 0, .slice none 0 0, .slice none 0 0, .int .i64 0, .int .i64 0], .bool true]) (by simp [results, Tryz.results10, go_sem, q0_, q1_, q2_, q3_, q4_, q5_, q6_, q7_, q8_, q9_, q10_, q11_, q12_, q13_, q14_, q15_]) rfl ⟨_, SR.out, HBF.out, Or.inl ⟨HRB.out, HST.out, rfl, LF.out⟩⟩
    ·have hbn : (!(sb.toList == t.toList)) = true := by
      rw [Bool.not_eq_true', beq_eq_false_iff_ne]
      exact fun e => hst (toList_inj e)
     have HN : Hid (¬ (recB ⟨(K : Int), ⟨t1, ra, rc, wa, wk⟩, ⟨#[]⟩, false, zB⟩ = true ∧ sealB ⟨(rcL ⟨(K : Int), ⟨t1, ra, rc, wa, wk⟩, ⟨#[]⟩, false, zB⟩).toArray⟩ = t)) := fun h => hst (by rw [← HSB.out]; exact h.2)
     clear hst HSB BX5 LC5 S5
     as_aux_lemma =>
      go_upto_region 15 with fail
      refine wp_region_lit ?_
      refine wpList_plain rfl fun K hK => ?_
      go_simp
      refine hK _ _ ?_
      clear hK K
      refine wpStore16K (.int .i64 0) (.int .i64 0) (.int .i64 0) (.int .i64 0) (.int .i64 0) (.slice none 0 0) (.slice none 0 0) (.bool false) (.string ⟨#[]⟩) (.string ⟨#[]⟩) (.bool false) (.slice none 0 0) (.slice none 0 0) (.slice none 0 0) (.int .i64 0) (.int .i64 0) rfl 44 _ _ rfl (by kernel_rfl) (by kernel_rfl) (by kernel_rfl) B5.out (List.forall_mem_cons.2 ⟨rfl, List.forall_mem_cons.2 ⟨rfl, List.forall_mem_cons.2 ⟨rfl, List.forall_mem_cons.2 ⟨rfl, List.forall_mem_cons.2 ⟨rfl, List.forall_mem_cons.2 ⟨rfl, List.forall_mem_cons.2 ⟨rfl, List.forall_mem_cons.2 ⟨rfl, List.forall_mem_cons.2 ⟨rfl, List.forall_mem_cons.2 ⟨rfl, List.forall_mem_cons.2 ⟨rfl, List.forall_mem_cons.2 ⟨rfl, List.forall_mem_cons.2 ⟨rfl, List.forall_mem_cons.2 ⟨rfl, List.forall_mem_cons.2 ⟨rfl, List.forall_mem_cons.2 ⟨rfl, fun _ h => by cases h⟩⟩⟩⟩⟩⟩⟩⟩⟩⟩⟩⟩⟩⟩⟩⟩) (fun WF bf zf => ?_)
      have BF := hide bf
      have HBF : Hid (Below w.heap.size w WF) := HB5.out.trans (zf.below (Nat.le_refl _) HB5.out.size)
      clear B5 HB5 bf zf
      go_wp2
      have q0_ := BF.out.c0
      have q1_ := BF.out.c1
      have q2_ := BF.out.c2
      have q3_ := BF.out.c3
      have q4_ := BF.out.c4
      have q5_ := BF.out.c5
      have q6_ := BF.out.c6
      have q7_ := BF.out.c7
      have q8_ := BF.out.c8
      have q9_ := BF.out.c9
      have q10_ := BF.out.c10
      have q11_ := BF.out.c11
      have q12_ := BF.out.c12
      have q13_ := BF.out.c13
      have q14_ := BF.out.c14
      have q15_ := BF.out.c15
      refine bodyPost_ret (v := .tuple #[.agg #[.int .i64 0, .int .i64 0, .int .i64 0, .int .i64 0, .int .i64 0, .slice none 0 0, .slice none 0 0, .bool false, .string ⟨#[]⟩, .string ⟨#[]⟩, .bool false, .slice none 0 0, .slice none 0 0, .slice none 0 0, .int .i64 0, .int .i64 0], .bool false]) (by simp [results, Tryz.results10, go_sem, q0_, q1_, q2_, q3_, q4_, q5_, q6_, q7_, q8_, q9_, q10_, q11_, q12_, q13_, q14_, q15_]) rfl ⟨_, SR.out, HBF.out, Or.inr ⟨HN.out, rfl⟩⟩

end Go.Proofs.YtpnnncfbodfnhaaGreatDoor
