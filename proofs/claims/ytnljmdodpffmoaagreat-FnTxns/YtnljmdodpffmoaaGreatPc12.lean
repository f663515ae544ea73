/- What l07Copy does, for rows that are owned. -/
import Derived.Test.YtnljmdodpffmoaaGreatPc11
import Derived.Deep.RegionHeld3
import Derived.Deep.Cut
namespace Go.Proofs.YtnljmdodpffmoaaGreat
open Go.RowKit
open KM
attribute [local go_sem ↓] Go.wp_at_zero Go.wp_at_succ

set_option maxRecDepth 100000 in
set_option maxHeartbeats 4000000 in
theorem scopyTe (t : Tx) (ra wa : Option Addr) (rc wc : Nat) (lo m : Nat) (hr : t.rs.length ≤ 10000000) (hw : t.ws.length ≤ 10000000) (w : World) (h1 : GOwn encR 36 w lo (.slice ra t.rs.length rc) t.rs) (h2 : GOwn encW 42 w m (.slice wa t.ws.length wc) t.ws) :
  Calls Tryz.prog 44 #[.agg #[.int .i64 t.id, .int .i64 t.st, .int .i64 t.snap, .int .i64 t.cs, .slice ra t.rs.length rc, .slice wa t.ws.length wc, .bool t.out, .string t.nm]] w fun e w' => ∃ ra1 rc1 wa1 wc1, e = .returned (.agg #[.int .i64 t.id, .int .i64 t.st, .int .i64 t.snap, .int .i64 t.cs, .slice ra1 t.rs.length rc1, .slice wa1 t.ws.length wc1, .bool t.out, .string t.nm]) ∧ TLie w' w.heap.size w'.heap.size t ra1 rc1 wa1 wc1 ∧ Below w.heap.size w w' := by
 have BA0 : Hid (Bx (((w.alloc (.cells #[.int .i64 t.id, .int .i64 t.st, .int .i64 t.snap, .int .i64 t.cs, .slice ra t.rs.length rc, .slice wa t.ws.length wc, .bool t.out, .string t.nm] 27)).alloc (.cells #[.int .i64 0, .int .i64 0, .int .i64 0, .int .i64 0, .slice none 0 0, .slice none 0 0, .bool false, .string ⟨#[]⟩] 27)).alloc (.cells #[.int .i64 t.id, .int .i64 t.st, .int .i64 t.snap, .int .i64 t.cs, .slice ra t.rs.length rc, .slice wa t.ws.length wc, .bool t.out, .string t.nm] 27)) w.heap.size [.int .i64 t.id, .int .i64 t.st, .int .i64 t.snap, .int .i64 t.cs, .slice ra t.rs.length rc, .slice wa t.ws.length wc, .bool t.out, .string t.nm]) := ((Bx.new w [.int .i64 t.id, .int .i64 t.st, .int .i64 t.snap, .int .i64 t.cs, .slice ra t.rs.length rc, .slice wa t.ws.length wc, .bool t.out, .string t.nm] 27).alloc _).alloc _
 have BR0 : Hid (Bx (((w.alloc (.cells #[.int .i64 t.id, .int .i64 t.st, .int .i64 t.snap, .int .i64 t.cs, .slice ra t.rs.length rc, .slice wa t.ws.length wc, .bool t.out, .string t.nm] 27)).alloc (.cells #[.int .i64 0, .int .i64 0, .int .i64 0, .int .i64 0, .slice none 0 0, .slice none 0 0, .bool false, .string ⟨#[]⟩] 27)).alloc (.cells #[.int .i64 t.id, .int .i64 t.st, .int .i64 t.snap, .int .i64 t.cs, .slice ra t.rs.length rc, .slice wa t.ws.length wc, .bool t.out, .string t.nm] 27)) (w.heap.size + 1) [.int .i64 0, .int .i64 0, .int .i64 0, .int .i64 0, .slice none 0 0, .slice none 0 0, .bool false, .string ⟨#[]⟩]) := by
  have h := (Bx.new (w.alloc (.cells #[.int .i64 t.id, .int .i64 t.st, .int .i64 t.snap, .int .i64 t.cs, .slice ra t.rs.length rc, .slice wa t.ws.length wc, .bool t.out, .string t.nm] 27)) [.int .i64 0, .int .i64 0, .int .i64 0, .int .i64 0, .slice none 0 0, .slice none 0 0, .bool false, .string ⟨#[]⟩] 27).alloc (.cells #[.int .i64 t.id, .int .i64 t.st, .int .i64 t.snap, .int .i64 t.cs, .slice ra t.rs.length rc, .slice wa t.ws.length wc, .bool t.out, .string t.nm] 27)
  rw [show (w.alloc (.cells #[.int .i64 t.id, .int .i64 t.st, .int .i64 t.snap, .int .i64 t.cs, .slice ra t.rs.length rc, .slice wa t.ws.length wc, .bool t.out, .string t.nm] 27)).heap.size = w.heap.size + 1 by simp] at h
  exact h
 have BO0 : Hid (Bx (((w.alloc (.cells #[.int .i64 t.id, .int .i64 t.st, .int .i64 t.snap, .int .i64 t.cs, .slice ra t.rs.length rc, .slice wa t.ws.length wc, .bool t.out, .string t.nm] 27)).alloc (.cells #[.int .i64 0, .int .i64 0, .int .i64 0, .int .i64 0, .slice none 0 0, .slice none 0 0, .bool false, .string ⟨#[]⟩] 27)).alloc (.cells #[.int .i64 t.id, .int .i64 t.st, .int .i64 t.snap, .int .i64 t.cs, .slice ra t.rs.length rc, .slice wa t.ws.length wc, .bool t.out, .string t.nm] 27)) (w.heap.size + 1 + 1) [.int .i64 t.id, .int .i64 t.st, .int .i64 t.snap, .int .i64 t.cs, .slice ra t.rs.length rc, .slice wa t.ws.length wc, .bool t.out, .string t.nm]) := by
  have h := Bx.new ((w.alloc (.cells #[.int .i64 t.id, .int .i64 t.st, .int .i64 t.snap, .int .i64 t.cs, .slice ra t.rs.length rc, .slice wa t.ws.length wc, .bool t.out, .string t.nm] 27)).alloc (.cells #[.int .i64 0, .int .i64 0, .int .i64 0, .int .i64 0, .slice none 0 0, .slice none 0 0, .bool false, .string ⟨#[]⟩] 27)) [.int .i64 t.id, .int .i64 t.st, .int .i64 t.snap, .int .i64 t.cs, .slice ra t.rs.length rc, .slice wa t.ws.length wc, .bool t.out, .string t.nm] 27
  rw [show ((w.alloc (.cells #[.int .i64 t.id, .int .i64 t.st, .int .i64 t.snap, .int .i64 t.cs, .slice ra t.rs.length rc, .slice wa t.ws.length wc, .bool t.out, .string t.nm] 27)).alloc (.cells #[.int .i64 0, .int .i64 0, .int .i64 0, .int .i64 0, .slice none 0 0, .slice none 0 0, .bool false, .string ⟨#[]⟩] 27)).heap.size = w.heap.size + 1 + 1 by simp] at h
  exact h
 have HB0 : Hid (Below w.heap.size w (((w.alloc (.cells #[.int .i64 t.id, .int .i64 t.st, .int .i64 t.snap, .int .i64 t.cs, .slice ra t.rs.length rc, .slice wa t.ws.length wc, .bool t.out, .string t.nm] 27)).alloc (.cells #[.int .i64 0, .int .i64 0, .int .i64 0, .int .i64 0, .slice none 0 0, .slice none 0 0, .bool false, .string ⟨#[]⟩] 27)).alloc (.cells #[.int .i64 t.id, .int .i64 t.st, .int .i64 t.snap, .int .i64 t.cs, .slice ra t.rs.length rc, .slice wa t.ws.length wc, .bool t.out, .string t.nm] 27))) := (((belowRefl w).alloc (Nat.le_refl _) _).alloc (by simp) _).alloc (by simp; omega) _
 have S0 : Hid ((((w.alloc (.cells #[.int .i64 t.id, .int .i64 t.st, .int .i64 t.snap, .int .i64 t.cs, .slice ra t.rs.length rc, .slice wa t.ws.length wc, .bool t.out, .string t.nm] 27)).alloc (.cells #[.int .i64 0, .int .i64 0, .int .i64 0, .int .i64 0, .slice none 0 0, .slice none 0 0, .bool false, .string ⟨#[]⟩] 27)).alloc (.cells #[.int .i64 t.id, .int .i64 t.st, .int .i64 t.snap, .int .i64 t.cs, .slice ra t.rs.length rc, .slice wa t.ws.length wc, .bool t.out, .string t.nm] 27)).heap.size = w.heap.size + 1 + 1 + 1) := by show _ = _; simp
 have P1 : Hid (GOwn encR 36 w lo (.slice ra t.rs.length rc) t.rs) := h1
 have P2 : Hid (GOwn encW 42 w m (.slice wa t.ws.length wc) t.ws) := h2
 clear h1 h2
 have HE : Hid (GOwn encR 36 ((((w.alloc (.cells #[.int .i64 t.id, .int .i64 t.st, .int .i64 t.snap, .int .i64 t.cs, .slice ra t.rs.length rc, .slice wa t.ws.length wc, .bool t.out, .string t.nm] 27)).alloc (.cells #[.int .i64 0, .int .i64 0, .int .i64 0, .int .i64 0, .slice none 0 0, .slice none 0 0, .bool false, .string ⟨#[]⟩] 27)).alloc (.cells #[.int .i64 t.id, .int .i64 t.st, .int .i64 t.snap, .int .i64 t.cs, .slice ra t.rs.length rc, .slice wa t.ws.length wc, .bool t.out, .string t.nm] 27)).alloc (.cells #[] 36)) (w.heap.size + 1 + 1 + 1) (.slice (some ⟨w.heap.size + 1 + 1 + 1, 0, none⟩) 0 0) []) := by
  have h := GOwn.empty (E := encR) (e := 36) (((w.alloc (.cells #[.int .i64 t.id, .int .i64 t.st, .int .i64 t.snap, .int .i64 t.cs, .slice ra t.rs.length rc, .slice wa t.ws.length wc, .bool t.out, .string t.nm] 27)).alloc (.cells #[.int .i64 0, .int .i64 0, .int .i64 0, .int .i64 0, .slice none 0 0, .slice none 0 0, .bool false, .string ⟨#[]⟩] 27)).alloc (.cells #[.int .i64 t.id, .int .i64 t.st, .int .i64 t.snap, .int .i64 t.cs, .slice ra t.rs.length rc, .slice wa t.ws.length wc, .bool t.out, .string t.nm] 27)) (w.heap.size + 1 + 1 + 1) (by rw [S0.out]; exact Nat.le_refl _)
  rw [S0.out] at h
  exact h
 have HB0e : Hid (Below w.heap.size w ((((w.alloc (.cells #[.int .i64 t.id, .int .i64 t.st, .int .i64 t.snap, .int .i64 t.cs, .slice ra t.rs.length rc, .slice wa t.ws.length wc, .bool t.out, .string t.nm] 27)).alloc (.cells #[.int .i64 0, .int .i64 0, .int .i64 0, .int .i64 0, .slice none 0 0, .slice none 0 0, .bool false, .string ⟨#[]⟩] 27)).alloc (.cells #[.int .i64 t.id, .int .i64 t.st, .int .i64 t.snap, .int .i64 t.cs, .slice ra t.rs.length rc, .slice wa t.ws.length wc, .bool t.out, .string t.nm] 27)).alloc (.cells #[] 36))) := HB0.out.alloc HB0.out.size _
 have P1e := hide (gsrc (P1.out.below HB0e.out))
 have x4 := (BA0.out.alloc (.cells #[] 36)).c4
 have sz1 : w.heap.size + 1 + 1 + 1 ≤ ((((w.alloc (.cells #[.int .i64 t.id, .int .i64 t.st, .int .i64 t.snap, .int .i64 t.cs, .slice ra t.rs.length rc, .slice wa t.ws.length wc, .bool t.out, .string t.nm] 27)).alloc (.cells #[.int .i64 0, .int .i64 0, .int .i64 0, .int .i64 0, .slice none 0 0, .slice none 0 0, .bool false, .string ⟨#[]⟩] 27)).alloc (.cells #[.int .i64 t.id, .int .i64 t.st, .int .i64 t.snap, .int .i64 t.cs, .slice ra t.rs.length rc, .slice wa t.ws.length wc, .bool t.out, .string t.nm] 27)).alloc (.cells #[] 36)).heap.size := by rw [World.size_alloc, S0.out]; omega
 go_enter Tryz.func44, Tryz.ntmps44
 go_wp2_with (at_builtin; refine wpAppRowR (v := .slice (some ⟨w.heap.size + 1 + 1 + 1, 0, none⟩) 0 0) rfl _ _ rfl rfl HE.out rfl P1e.out rfl (by simp; omega) sz1 (fun h => by cases h) ?_)
 intro g1 cap1 L1 w1 hL1 ho1 hb1
 obtain rfl : L1 = t.rs.length := by simpa using hL1
 have BA1 := hide ((BA0.out.alloc (.cells #[] 36)).belowB hb1 (by omega))
 have BR1 := hide ((BR0.out.alloc (.cells #[] 36)).belowB hb1 (by omega))
 have BO1 := hide ((BO0.out.alloc (.cells #[] 36)).belowB hb1 (by omega))
 have HBe : Hid (Below (w.heap.size + 1 + 1 + 1) (((w.alloc (.cells #[.int .i64 t.id, .int .i64 t.st, .int .i64 t.snap, .int .i64 t.cs, .slice ra t.rs.length rc, .slice wa t.ws.length wc, .bool t.out, .string t.nm] 27)).alloc (.cells #[.int .i64 0, .int .i64 0, .int .i64 0, .int .i64 0, .slice none 0 0, .slice none 0 0, .bool false, .string ⟨#[]⟩] 27)).alloc (.cells #[.int .i64 t.id, .int .i64 t.st, .int .i64 t.snap, .int .i64 t.cs, .slice ra t.rs.length rc, .slice wa t.ws.length wc, .bool t.out, .string t.nm] 27)) w1) := by
  have h := (belowRefl (((w.alloc (.cells #[.int .i64 t.id, .int .i64 t.st, .int .i64 t.snap, .int .i64 t.cs, .slice ra t.rs.length rc, .slice wa t.ws.length wc, .bool t.out, .string t.nm] 27)).alloc (.cells #[.int .i64 0, .int .i64 0, .int .i64 0, .int .i64 0, .slice none 0 0, .slice none 0 0, .bool false, .string ⟨#[]⟩] 27)).alloc (.cells #[.int .i64 t.id, .int .i64 t.st, .int .i64 t.snap, .int .i64 t.cs, .slice ra t.rs.length rc, .slice wa t.ws.length wc, .bool t.out, .string t.nm] 27))).alloc (Nat.le_refl _) (.cells #[] 36)
  rw [S0.out] at h
  exact h.trans hb1
 have HB1 : Hid (Below w.heap.size w w1) := HB0.out.trans (HBe.out.mono (by omega))
 have hs1 := HBe.out.size
 rw [S0.out] at hs1
 have SZ1 : Hid (w.heap.size + 1 + 1 + 1 ≤ w1.heap.size) := hs1
 have L1 : Hid (Lies encR 36 w1 (w.heap.size + 1 + 1 + 1) w1.heap.size (.slice (some ⟨g1, 0, none⟩) t.rs.length cap1) t.rs) := Lies.of ho1
 clear hL1 ho1 hb1 hs1 HBe HE P1e P1 x4 BA0 BR0 BO0 HB0 HB0e sz1
 have o4 := BO1.out.c4
 have f4 := BO1.out.fz 4
 have x5 := ((BA1.out.setO (p := ⟨w.heap.size + 1 + 1, 4, none⟩) (by show w.heap.size + 1 + 1 ≠ w.heap.size; omega) (.slice (some ⟨g1, 0, none⟩) t.rs.length cap1)).alloc (.cells #[] 42)).c5
 have ZS : Hid ((w1.setCell ⟨w.heap.size + 1 + 1, 4, none⟩ (.slice (some ⟨g1, 0, none⟩) t.rs.length cap1)).heap.size = w1.heap.size) := by show _ = _; simp [World.setCell]
 have HE2 : Hid (GOwn encW 42 ((w1.setCell ⟨w.heap.size + 1 + 1, 4, none⟩ (.slice (some ⟨g1, 0, none⟩) t.rs.length cap1)).alloc (.cells #[] 42)) w1.heap.size (.slice (some ⟨w1.heap.size, 0, none⟩) 0 0) []) := by
  have h := GOwn.empty (E := encW) (e := 42) (w1.setCell ⟨w.heap.size + 1 + 1, 4, none⟩ (.slice (some ⟨g1, 0, none⟩) t.rs.length cap1)) w1.heap.size (by rw [ZS.out]; exact Nat.le_refl _)
  rw [ZS.out] at h
  exact h
 have HB1s : Hid (Below w.heap.size w (w1.setCell ⟨w.heap.size + 1 + 1, 4, none⟩ (.slice (some ⟨g1, 0, none⟩) t.rs.length cap1))) := HB1.out.setCell (by show _ ≤ _ + 1 + 1; omega) _
 have P2e := hide (gsrc (P2.out.below (HB1s.out.alloc HB1s.out.size (.cells #[] 42))))
 have BR1s : Hid (Bx (w1.setCell ⟨w.heap.size + 1 + 1, 4, none⟩ (.slice (some ⟨g1, 0, none⟩) t.rs.length cap1)) (w.heap.size + 1) [.int .i64 0, .int .i64 0, .int .i64 0, .int .i64 0, .slice none 0 0, .slice none 0 0, .bool false, .string ⟨#[]⟩]) := BR1.out.setO (by show w.heap.size + 1 + 1 ≠ w.heap.size + 1; omega) _
 have BO1s : Hid (Bx (w1.setCell ⟨w.heap.size + 1 + 1, 4, none⟩ (.slice (some ⟨g1, 0, none⟩) t.rs.length cap1)) (w.heap.size + 1 + 1) [.int .i64 t.id, .int .i64 t.st, .int .i64 t.snap, .int .i64 t.cs, .slice (some ⟨g1, 0, none⟩) t.rs.length cap1, .slice wa t.ws.length wc, .bool t.out, .string t.nm]) := BO1.out.set 4 _
 have L1s : Hid (Lies encR 36 (w1.setCell ⟨w.heap.size + 1 + 1, 4, none⟩ (.slice (some ⟨g1, 0, none⟩) t.rs.length cap1)) (w.heap.size + 1 + 1 + 1) w1.heap.size (.slice (some ⟨g1, 0, none⟩) t.rs.length cap1) t.rs) := L1.out.set (by show _ + 1 + 1 < _; omega) _
 have sz2 : w1.heap.size ≤ ((w1.setCell ⟨w.heap.size + 1 + 1, 4, none⟩ (.slice (some ⟨g1, 0, none⟩) t.rs.length cap1)).alloc (.cells #[] 42)).heap.size := by rw [World.size_alloc, ZS.out]; omega
 go_wp2_with (at_builtin; refine wpAppRowW (v := .slice (some ⟨w1.heap.size, 0, none⟩) 0 0) rfl _ _ rfl rfl HE2.out rfl P2e.out rfl (by simp; omega) sz2 (fun h => by cases h) ?_)
 intro g2 cap2 L2 w2 hL2 ho2 hb2
 obtain rfl : L2 = t.ws.length := by simpa using hL2
 have BR2 := hide ((BR1s.out.alloc (.cells #[] 42)).belowB hb2 (by have := SZ1.out; omega))
 have BO2 := hide ((BO1s.out.alloc (.cells #[] 42)).belowB hb2 (by have := SZ1.out; omega))
 have HB2 : Hid (Below w.heap.size w w2) := (HB1s.out.alloc HB1s.out.size _).trans (hb2.mono (by have := SZ1.out; omega))
 have L1t := L1s.out.below ((belowRefl (w1.setCell ⟨w.heap.size + 1 + 1, 4, none⟩ (.slice (some ⟨g1, 0, none⟩) t.rs.length cap1))).alloc (Nat.le_refl _) (.cells #[] 42))
 have L1u : Hid (Lies encR 36 w2 (w.heap.size + 1 + 1 + 1) w1.heap.size (.slice (some ⟨g1, 0, none⟩) t.rs.length cap1) t.rs) := L1t.low hb2
 have SZ2 : Hid (w1.heap.size ≤ w2.heap.size) := Nat.le_trans sz2 hb2.size
 have L2 : Hid (TLie w2 (w.heap.size + 1 + 1 + 1) w2.heap.size t (some ⟨g1, 0, none⟩) cap1 (some ⟨g2, 0, none⟩) cap2) := ⟨w1.heap.size, SZ1.out, SZ2.out, L1u.out, Lies.of ho2⟩
 clear hL2 ho2 hb2 HE2 P2e x5 o4 f4 BA1 BR1 BO1 BR1s BO1s L1 L1s L1t L1u HB1 HB1s sz2
 have o0 := BO2.out.c0
 have q0 := BR2.out.c0
 have fq0 := BR2.out.fz 0
 have o1 := BO2.out.c1
 have q1 := BR2.out.c1
 have fq1 := BR2.out.fz 1
 have o2 := BO2.out.c2
 have q2 := BR2.out.c2
 have fq2 := BR2.out.fz 2
 have o3 := BO2.out.c3
 have q3 := BR2.out.c3
 have fq3 := BR2.out.fz 3
 have o4 := BO2.out.c4
 have q4 := BR2.out.c4
 have fq4 := BR2.out.fz 4
 have o5 := BO2.out.c5
 have q5 := BR2.out.c5
 have fq5 := BR2.out.fz 5
 have o6 := BO2.out.c6
 have q6 := BR2.out.c6
 have fq6 := BR2.out.fz 6
 have o7 := BO2.out.c7
 have q7 := BR2.out.c7
 have fq7 := BR2.out.fz 7
 have f5 := BO2.out.fz 5
 go_wp2
 refine bodyPost_ret (v := .agg #[.int .i64 t.id, .int .i64 t.st, .int .i64 t.snap, .int .i64 t.cs, .slice (some ⟨g1, 0, none⟩) t.rs.length cap1, .slice (some ⟨g2, 0, none⟩) t.ws.length cap2, .bool t.out, .string t.nm]) (by simp [results, Tryz.results44, go_sem, q0, q1, q2, q3, q4, q5, q6, q7]) rfl ⟨_, cap1, _, cap2, rfl, ?_, ?_⟩
 ·exact (((((((((L2.out.set (by show _ + 1 + 1 < _; omega) _).set (by show _ + 1 < _; omega) _).set (by show _ + 1 < _; omega) _).set (by show _ + 1 < _; omega) _).set (by show _ + 1 < _; omega) _).set (by show _ + 1 < _; omega) _).set (by show _ + 1 < _; omega) _).set (by show _ + 1 < _; omega) _).set (by show _ + 1 < _; omega) _).mono (by omega) (by simp [World.setCell])
 ·exact (((((((((HB2.out.setCell (by show _ ≤ _ + 1 + 1; omega) _).setCell (by show _ ≤ _ + 1; omega) _).setCell (by show _ ≤ _ + 1; omega) _).setCell (by show _ ≤ _ + 1; omega) _).setCell (by show _ ≤ _ + 1; omega) _).setCell (by show _ ≤ _ + 1; omega) _).setCell (by show _ ≤ _ + 1; omega) _).setCell (by show _ ≤ _ + 1; omega) _).setCell (by show _ ≤ _ + 1; omega) _)

end Go.Proofs.YtnljmdodpffmoaaGreat
