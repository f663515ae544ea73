/- What stays: what laws toBase does. -/
import Derived.Test.YtpnnncfbodfnhaaGreatDoorPd11
import Derived.Deep.RegionHeld3
import Derived.Deep.Cut
import Derived.Deep.CutRange
namespace Go.Proofs.YtpnnncfbodfnhaaGreatDoor
open Go.RowKit
open KM
attribute [local go_sem ↓] Go.wp_at_zero Go.wp_at_succ

structure BLie (w : World) (lo hi : Nat) (c : Bb) : Prop where
 ex : ∃ m1 m2, lo ≤ m1 ∧ m1 ≤ m2 ∧ m2 ≤ hi ∧ Lies encV 106 w lo m1 (.slice c.va c.vs.length c.vc) c.vs ∧ LLie w m1 m2 (.slice c.pa c.ps.length c.pc) c.ps ∧ LLie w m2 hi (.slice c.qa c.qs.length c.qc) c.qs
theorem BLie.rows {w : World} {lo hi : Nat} {c : Bb} (h : BLie w lo hi c) : BRows w c := by
 obtain ⟨m1, m2, _, _, _, h1, h2, h3⟩ := h.ex
 exact ⟨h1.own.grow, h2.rows, h3.rows⟩
theorem BLie.below {w w' : World} {lo hi : Nat} {c : Bb} (h : BLie w lo hi c) (hb : Below w.heap.size w w') : BLie w' lo hi c := by
 obtain ⟨m1, m2, a, b, d, h1, h2, h3⟩ := h.ex
 exact ⟨m1, m2, a, b, d, h1.below hb, h2.below hb, h3.below hb⟩
theorem BLie.set {w : World} {lo hi : Nat} {c : Bb} (h : BLie w lo hi c) {a : Addr} (ha : a.block < lo) (u : Value) : BLie (w.setCell a u) lo hi c := by
 obtain ⟨m1, m2, k1, k2, k3, h1, h2, h3⟩ := h.ex
 exact ⟨m1, m2, k1, k2, k3, h1.set ha u, h2.set (by omega) u, h3.set (by omega) u⟩
theorem BLie.mono {w : World} {lo hi lo' hi' : Nat} {c : Bb} (h : BLie w lo hi c) (k : lo' ≤ lo) (k' : hi ≤ hi') : BLie w lo' hi' c := by
 obtain ⟨m1, m2, k1, k2, k3, h1, h2, h3⟩ := h.ex
 exact ⟨m1, m2, by omega, k2, by omega, h1.mono k (Nat.le_refl _), h2, h3.mono (Nat.le_refl _) k'⟩
set_option maxRecDepth 100000 in
set_option maxHeartbeats 4000000 in
theorem toB (b : Bb) (hf : BFit b) (w : World) (hp : BRows w b) :
  Calls Tryz.prog 23 #[.agg #[.slice b.va b.vs.length b.vc, .slice b.pa b.ps.length b.pc, .slice b.qa b.qs.length b.qc, .int .i64 b.cs, .int .i64 b.nx]] w fun e w' => ∃ c : Bb, e = .returned (.agg #[.slice c.va c.vs.length c.vc, .slice c.pa c.ps.length c.pc, .slice c.qa c.qs.length c.qc, .int .i64 c.cs, .int .i64 c.nx]) ∧ BSame b c ∧ BLie w' w.heap.size w'.heap.size c ∧ Below w.heap.size w w' := by
 have HP : Hid (BRows w b) := hp
 have HF : Hid (BFit b) := hf
 clear hp hf
 have BA0 : Hid (Bx (((w.alloc (.cells #[.slice b.va b.vs.length b.vc, .slice b.pa b.ps.length b.pc, .slice b.qa b.qs.length b.qc, .int .i64 b.cs, .int .i64 b.nx] 29)).alloc (.cells #[.slice none 0 0, .slice none 0 0, .slice none 0 0, .int .i64 0, .int .i64 0] 42)).alloc (.cells #[.slice none 0 0, .slice none 0 0, .slice none 0 0, .int .i64 0, .int .i64 0] 42)) w.heap.size [.slice b.va b.vs.length b.vc, .slice b.pa b.ps.length b.pc, .slice b.qa b.qs.length b.qc, .int .i64 b.cs, .int .i64 b.nx]) := ((Bx.new w [.slice b.va b.vs.length b.vc, .slice b.pa b.ps.length b.pc, .slice b.qa b.qs.length b.qc, .int .i64 b.cs, .int .i64 b.nx] 29).alloc _).alloc _
 have BR0 : Hid (Bx (((w.alloc (.cells #[.slice b.va b.vs.length b.vc, .slice b.pa b.ps.length b.pc, .slice b.qa b.qs.length b.qc, .int .i64 b.cs, .int .i64 b.nx] 29)).alloc (.cells #[.slice none 0 0, .slice none 0 0, .slice none 0 0, .int .i64 0, .int .i64 0] 42)).alloc (.cells #[.slice none 0 0, .slice none 0 0, .slice none 0 0, .int .i64 0, .int .i64 0] 42)) (w.heap.size + 1) [.slice none 0 0, .slice none 0 0, .slice none 0 0, .int .i64 0, .int .i64 0]) := by
  have h := (Bx.new (w.alloc (.cells #[.slice b.va b.vs.length b.vc, .slice b.pa b.ps.length b.pc, .slice b.qa b.qs.length b.qc, .int .i64 b.cs, .int .i64 b.nx] 29)) [.slice none 0 0, .slice none 0 0, .slice none 0 0, .int .i64 0, .int .i64 0] 42).alloc (.cells #[.slice none 0 0, .slice none 0 0, .slice none 0 0, .int .i64 0, .int .i64 0] 42)
  rw [show (w.alloc (.cells #[.slice b.va b.vs.length b.vc, .slice b.pa b.ps.length b.pc, .slice b.qa b.qs.length b.qc, .int .i64 b.cs, .int .i64 b.nx] 29)).heap.size = w.heap.size + 1 by simp] at h
  exact h
 have BO0 : Hid (Bx (((w.alloc (.cells #[.slice b.va b.vs.length b.vc, .slice b.pa b.ps.length b.pc, .slice b.qa b.qs.length b.qc, .int .i64 b.cs, .int .i64 b.nx] 29)).alloc (.cells #[.slice none 0 0, .slice none 0 0, .slice none 0 0, .int .i64 0, .int .i64 0] 42)).alloc (.cells #[.slice none 0 0, .slice none 0 0, .slice none 0 0, .int .i64 0, .int .i64 0] 42)) (w.heap.size + 1 + 1) [.slice none 0 0, .slice none 0 0, .slice none 0 0, .int .i64 0, .int .i64 0]) := by
  have h := Bx.new ((w.alloc (.cells #[.slice b.va b.vs.length b.vc, .slice b.pa b.ps.length b.pc, .slice b.qa b.qs.length b.qc, .int .i64 b.cs, .int .i64 b.nx] 29)).alloc (.cells #[.slice none 0 0, .slice none 0 0, .slice none 0 0, .int .i64 0, .int .i64 0] 42)) [.slice none 0 0, .slice none 0 0, .slice none 0 0, .int .i64 0, .int .i64 0] 42
  rw [show ((w.alloc (.cells #[.slice b.va b.vs.length b.vc, .slice b.pa b.ps.length b.pc, .slice b.qa b.qs.length b.qc, .int .i64 b.cs, .int .i64 b.nx] 29)).alloc (.cells #[.slice none 0 0, .slice none 0 0, .slice none 0 0, .int .i64 0, .int .i64 0] 42)).heap.size = w.heap.size + 1 + 1 by simp] at h
  exact h
 have HB0 : Hid (Below w.heap.size w (((w.alloc (.cells #[.slice b.va b.vs.length b.vc, .slice b.pa b.ps.length b.pc, .slice b.qa b.qs.length b.qc, .int .i64 b.cs, .int .i64 b.nx] 29)).alloc (.cells #[.slice none 0 0, .slice none 0 0, .slice none 0 0, .int .i64 0, .int .i64 0] 42)).alloc (.cells #[.slice none 0 0, .slice none 0 0, .slice none 0 0, .int .i64 0, .int .i64 0] 42))) := (((belowRefl w).alloc (Nat.le_refl _) _).alloc (by simp) _).alloc (by simp; omega) _
 have S0 : Hid ((((w.alloc (.cells #[.slice b.va b.vs.length b.vc, .slice b.pa b.ps.length b.pc, .slice b.qa b.qs.length b.qc, .int .i64 b.cs, .int .i64 b.nx] 29)).alloc (.cells #[.slice none 0 0, .slice none 0 0, .slice none 0 0, .int .i64 0, .int .i64 0] 42)).alloc (.cells #[.slice none 0 0, .slice none 0 0, .slice none 0 0, .int .i64 0, .int .i64 0] 42)).heap.size = w.heap.size + 1 + 1 + 1) := by show _ = _; simp
 have HSZ : Hid (w.heap.size + 1 + 1 + 1 ≤ (((w.alloc (.cells #[.slice b.va b.vs.length b.vc, .slice b.pa b.ps.length b.pc, .slice b.qa b.qs.length b.qc, .int .i64 b.cs, .int .i64 b.nx] 29)).alloc (.cells #[.slice none 0 0, .slice none 0 0, .slice none 0 0, .int .i64 0, .int .i64 0] 42)).alloc (.cells #[.slice none 0 0, .slice none 0 0, .slice none 0 0, .int .i64 0, .int .i64 0] 42)).heap.size) := by show _ ≤ _; rw [S0.out]; exact Nat.le_refl _
 have CV : Hid (∀ W : World, Below w.heap.size w W → Calls Tryz.prog 59 #[.slice b.va b.vs.length b.vc] W fun e w' => ∃ a1 c1, e = .returned (.slice a1 b.vs.length c1) ∧ GOwn encV 106 w' W.heap.size (.slice a1 b.vs.length c1) b.vs ∧ Below W.heap.size W w') := fun W h => toSV b.vs b.va b.vc (Nat.le_trans HF.out.vl (by omega)) W (HP.out.v.below h)
 have CP : Hid (∀ W : World, Below w.heap.size w W → Calls Tryz.prog 60 #[.slice b.pa b.ps.length b.pc] W fun e w' => ∃ (ys : List Ta) (a1 : Option Addr) (c1 : Nat), e = .returned (.slice a1 b.ps.length c1) ∧ txs ys = txs b.ps ∧ ys.length = b.ps.length ∧ LLie w' W.heap.size w'.heap.size (.slice a1 ys.length c1) ys ∧ Below W.heap.size W w') := fun W h => toL2 b.ps b.pa b.pc (Nat.le_trans HF.out.pl (by omega)) HF.out.p W (HP.out.p.below h)
 have CQ : Hid (∀ W : World, Below w.heap.size w W → Calls Tryz.prog 60 #[.slice b.qa b.qs.length b.qc] W fun e w' => ∃ (ys : List Ta) (a1 : Option Addr) (c1 : Nat), e = .returned (.slice a1 b.qs.length c1) ∧ txs ys = txs b.qs ∧ ys.length = b.qs.length ∧ LLie w' W.heap.size w'.heap.size (.slice a1 ys.length c1) ys ∧ Below W.heap.size W w') := fun W h => toL2 b.qs b.qa b.qc (Nat.le_trans HF.out.ql (by omega)) HF.out.q W (HP.out.q.below h)
 clear HP HF S0
 go_enter Tryz.func23, Tryz.ntmps23
 go_upto_region 2 with fail
 generalize (((w.alloc (.cells #[.slice b.va b.vs.length b.vc, .slice b.pa b.ps.length b.pc, .slice b.qa b.qs.length b.qc, .int .i64 b.cs, .int .i64 b.nx] 29)).alloc (.cells #[.slice none 0 0, .slice none 0 0, .slice none 0 0, .int .i64 0, .int .i64 0] 42)).alloc (.cells #[.slice none 0 0, .slice none 0 0, .slice none 0 0, .int .i64 0, .int .i64 0] 42)) = w0 at *
 have x0 := BA0.out.c0
 go_wp2_with fail
 refine (CV.out _ HB0.out).mono ?_
 rintro e w1 ⟨va1, vc1, rfl, ho, hb⟩
 have BA1 : Hid (Bx w1 w.heap.size [.slice b.va b.vs.length b.vc, .slice b.pa b.ps.length b.pc, .slice b.qa b.qs.length b.qc, .int .i64 b.cs, .int .i64 b.nx]) := BA0.out.below hb
 have BR1 : Hid (Bx w1 (w.heap.size + 1) [.slice none 0 0, .slice none 0 0, .slice none 0 0, .int .i64 0, .int .i64 0]) := BR0.out.below hb
 have BO1 : Hid (Bx w1 (w.heap.size + 1 + 1) [.slice none 0 0, .slice none 0 0, .slice none 0 0, .int .i64 0, .int .i64 0]) := BO0.out.below hb
 have HB1 : Hid (Below w.heap.size w w1) := HB0.out.trans (hb.mono HB0.out.size)
 have Y1 : Hid (w0.heap.size ≤ w1.heap.size) := hb.size
 have R1 : Hid (Lies encV 106 w1 w0.heap.size w1.heap.size (.slice va1 b.vs.length vc1) b.vs) := Lies.of ho
 clear ho
 clear hb x0 BA0 BR0 BO0 HB0
 have o4 := BO1.out.c0
 have f4 := BO1.out.fz 0
 go_upto_region 3 with fail
 clear o4 f4
 replace BA1 : Hid (Bx (w1.setCell ⟨w.heap.size + 1 + 1, 0, none⟩ (.slice va1 b.vs.length vc1)) w.heap.size [.slice b.va b.vs.length b.vc, .slice b.pa b.ps.length b.pc, .slice b.qa b.qs.length b.qc, .int .i64 b.cs, .int .i64 b.nx]) := BA1.out.setO (by show w.heap.size + 1 + 1 ≠ w.heap.size; omega) _
 replace BR1 : Hid (Bx (w1.setCell ⟨w.heap.size + 1 + 1, 0, none⟩ (.slice va1 b.vs.length vc1)) (w.heap.size + 1) [.slice none 0 0, .slice none 0 0, .slice none 0 0, .int .i64 0, .int .i64 0]) := BR1.out.setO (by show w.heap.size + 1 + 1 ≠ w.heap.size + 1; omega) _
 replace BO1 : Hid (Bx (w1.setCell ⟨w.heap.size + 1 + 1, 0, none⟩ (.slice va1 b.vs.length vc1)) (w.heap.size + 1 + 1) [.slice va1 b.vs.length vc1, .slice none 0 0, .slice none 0 0, .int .i64 0, .int .i64 0]) := BO1.out.set 0 _
 replace HB1 : Hid (Below w.heap.size w (w1.setCell ⟨w.heap.size + 1 + 1, 0, none⟩ (.slice va1 b.vs.length vc1))) := HB1.out.setCell (by show _ ≤ _ + 1 + 1; omega) _
 replace R1 : Hid (Lies encV 106 (w1.setCell ⟨w.heap.size + 1 + 1, 0, none⟩ (.slice va1 b.vs.length vc1)) w0.heap.size w1.heap.size (.slice va1 b.vs.length vc1) b.vs) := R1.out.set (by have := HSZ.out; have := Y1.out; show w.heap.size + 1 + 1 < _; omega) _
 have YG1 : Hid (w1.heap.size ≤ (w1.setCell ⟨w.heap.size + 1 + 1, 0, none⟩ (.slice va1 b.vs.length vc1)).heap.size) := by show _ ≤ _; simp [World.setCell]
 generalize (w1.setCell ⟨w.heap.size + 1 + 1, 0, none⟩ (.slice va1 b.vs.length vc1)) = v1 at *
 have x1 := BA1.out.c1
 go_wp2_with fail
 refine (CP.out _ HB1.out).mono ?_
 rintro e w2 ⟨ys1, pa1, pc1, rfl, ht, hl, ho, hb⟩
 have BA2 : Hid (Bx w2 w.heap.size [.slice b.va b.vs.length b.vc, .slice b.pa b.ps.length b.pc, .slice b.qa b.qs.length b.qc, .int .i64 b.cs, .int .i64 b.nx]) := BA1.out.below hb
 have BR2 : Hid (Bx w2 (w.heap.size + 1) [.slice none 0 0, .slice none 0 0, .slice none 0 0, .int .i64 0, .int .i64 0]) := BR1.out.below hb
 have BO2 : Hid (Bx w2 (w.heap.size + 1 + 1) [.slice va1 b.vs.length vc1, .slice none 0 0, .slice none 0 0, .int .i64 0, .int .i64 0]) := BO1.out.below hb
 have HB2 : Hid (Below w.heap.size w w2) := HB1.out.trans (hb.mono HB1.out.size)
 replace R1 : Hid (Lies encV 106 w2 w0.heap.size w1.heap.size (.slice va1 b.vs.length vc1) b.vs) := R1.out.below hb
 have Y2 : Hid (v1.heap.size ≤ w2.heap.size) := hb.size
 have T1 : Hid (txs ys1 = txs b.ps) := ht
 have L1 : Hid (ys1.length = b.ps.length) := hl
 have R2 : Hid (LLie w2 v1.heap.size w2.heap.size (.slice pa1 ys1.length pc1) ys1) := ho
 clear ho ht hl
 clear hb x1 BA1 BR1 BO1 HB1
 have o4 := BO2.out.c1
 have f4 := BO2.out.fz 1
 go_upto_region 4 with fail
 clear o4 f4
 replace BA2 : Hid (Bx (w2.setCell ⟨w.heap.size + 1 + 1, 1, none⟩ (.slice pa1 b.ps.length pc1)) w.heap.size [.slice b.va b.vs.length b.vc, .slice b.pa b.ps.length b.pc, .slice b.qa b.qs.length b.qc, .int .i64 b.cs, .int .i64 b.nx]) := BA2.out.setO (by show w.heap.size + 1 + 1 ≠ w.heap.size; omega) _
 replace BR2 : Hid (Bx (w2.setCell ⟨w.heap.size + 1 + 1, 1, none⟩ (.slice pa1 b.ps.length pc1)) (w.heap.size + 1) [.slice none 0 0, .slice none 0 0, .slice none 0 0, .int .i64 0, .int .i64 0]) := BR2.out.setO (by show w.heap.size + 1 + 1 ≠ w.heap.size + 1; omega) _
 replace BO2 : Hid (Bx (w2.setCell ⟨w.heap.size + 1 + 1, 1, none⟩ (.slice pa1 b.ps.length pc1)) (w.heap.size + 1 + 1) [.slice va1 b.vs.length vc1, .slice pa1 b.ps.length pc1, .slice none 0 0, .int .i64 0, .int .i64 0]) := BO2.out.set 1 _
 replace HB2 : Hid (Below w.heap.size w (w2.setCell ⟨w.heap.size + 1 + 1, 1, none⟩ (.slice pa1 b.ps.length pc1))) := HB2.out.setCell (by show _ ≤ _ + 1 + 1; omega) _
 replace R1 : Hid (Lies encV 106 (w2.setCell ⟨w.heap.size + 1 + 1, 1, none⟩ (.slice pa1 b.ps.length pc1)) w0.heap.size w1.heap.size (.slice va1 b.vs.length vc1) b.vs) := R1.out.set (by have := HSZ.out; have := Y1.out; have := YG1.out; have := Y2.out; show w.heap.size + 1 + 1 < _; omega) _
 replace R2 : Hid (LLie (w2.setCell ⟨w.heap.size + 1 + 1, 1, none⟩ (.slice pa1 b.ps.length pc1)) v1.heap.size w2.heap.size (.slice pa1 ys1.length pc1) ys1) := R2.out.set (by have := HSZ.out; have := Y1.out; have := YG1.out; have := Y2.out; show w.heap.size + 1 + 1 < _; omega) _
 have YG2 : Hid (w2.heap.size ≤ (w2.setCell ⟨w.heap.size + 1 + 1, 1, none⟩ (.slice pa1 b.ps.length pc1)).heap.size) := by show _ ≤ _; simp [World.setCell]
 generalize (w2.setCell ⟨w.heap.size + 1 + 1, 1, none⟩ (.slice pa1 b.ps.length pc1)) = v2 at *
 have x2 := BA2.out.c2
 go_wp2_with fail
 refine (CQ.out _ HB2.out).mono ?_
 rintro e w3 ⟨ys2, qa1, qc1, rfl, ht, hl, ho, hb⟩
 have BA3 : Hid (Bx w3 w.heap.size [.slice b.va b.vs.length b.vc, .slice b.pa b.ps.length b.pc, .slice b.qa b.qs.length b.qc, .int .i64 b.cs, .int .i64 b.nx]) := BA2.out.below hb
 have BR3 : Hid (Bx w3 (w.heap.size + 1) [.slice none 0 0, .slice none 0 0, .slice none 0 0, .int .i64 0, .int .i64 0]) := BR2.out.below hb
 have BO3 : Hid (Bx w3 (w.heap.size + 1 + 1) [.slice va1 b.vs.length vc1, .slice pa1 b.ps.length pc1, .slice none 0 0, .int .i64 0, .int .i64 0]) := BO2.out.below hb
 have HB3 : Hid (Below w.heap.size w w3) := HB2.out.trans (hb.mono HB2.out.size)
 replace R1 : Hid (Lies encV 106 w3 w0.heap.size w1.heap.size (.slice va1 b.vs.length vc1) b.vs) := R1.out.below hb
 replace R2 : Hid (LLie w3 v1.heap.size w2.heap.size (.slice pa1 ys1.length pc1) ys1) := R2.out.below hb
 have Y3 : Hid (v2.heap.size ≤ w3.heap.size) := hb.size
 have T2 : Hid (txs ys2 = txs b.qs) := ht
 have L2 : Hid (ys2.length = b.qs.length) := hl
 have R3 : Hid (LLie w3 v2.heap.size w3.heap.size (.slice qa1 ys2.length qc1) ys2) := ho
 clear ho ht hl
 clear hb x2 BA2 BR2 BO2 HB2
 have o4 := BO3.out.c2
 have f4 := BO3.out.fz 2
 go_upto_region 5 with fail
 clear o4 f4
 replace BA3 : Hid (Bx (w3.setCell ⟨w.heap.size + 1 + 1, 2, none⟩ (.slice qa1 b.qs.length qc1)) w.heap.size [.slice b.va b.vs.length b.vc, .slice b.pa b.ps.length b.pc, .slice b.qa b.qs.length b.qc, .int .i64 b.cs, .int .i64 b.nx]) := BA3.out.setO (by show w.heap.size + 1 + 1 ≠ w.heap.size; omega) _
 replace BR3 : Hid (Bx (w3.setCell ⟨w.heap.size + 1 + 1, 2, none⟩ (.slice qa1 b.qs.length qc1)) (w.heap.size + 1) [.slice none 0 0, .slice none 0 0, .slice none 0 0, .int .i64 0, .int .i64 0]) := BR3.out.setO (by show w.heap.size + 1 + 1 ≠ w.heap.size + 1; omega) _
 replace BO3 : Hid (Bx (w3.setCell ⟨w.heap.size + 1 + 1, 2, none⟩ (.slice qa1 b.qs.length qc1)) (w.heap.size + 1 + 1) [.slice va1 b.vs.length vc1, .slice pa1 b.ps.length pc1, .slice qa1 b.qs.length qc1, .int .i64 0, .int .i64 0]) := BO3.out.set 2 _
 replace HB3 : Hid (Below w.heap.size w (w3.setCell ⟨w.heap.size + 1 + 1, 2, none⟩ (.slice qa1 b.qs.length qc1))) := HB3.out.setCell (by show _ ≤ _ + 1 + 1; omega) _
 replace R1 : Hid (Lies encV 106 (w3.setCell ⟨w.heap.size + 1 + 1, 2, none⟩ (.slice qa1 b.qs.length qc1)) w0.heap.size w1.heap.size (.slice va1 b.vs.length vc1) b.vs) := R1.out.set (by have := HSZ.out; have := Y1.out; have := YG1.out; have := Y2.out; have := YG2.out; have := Y3.out; show w.heap.size + 1 + 1 < _; omega) _
 replace R2 : Hid (LLie (w3.setCell ⟨w.heap.size + 1 + 1, 2, none⟩ (.slice qa1 b.qs.length qc1)) v1.heap.size w2.heap.size (.slice pa1 ys1.length pc1) ys1) := R2.out.set (by have := HSZ.out; have := Y1.out; have := YG1.out; have := Y2.out; have := YG2.out; have := Y3.out; show w.heap.size + 1 + 1 < _; omega) _
 replace R3 : Hid (LLie (w3.setCell ⟨w.heap.size + 1 + 1, 2, none⟩ (.slice qa1 b.qs.length qc1)) v2.heap.size w3.heap.size (.slice qa1 ys2.length qc1) ys2) := R3.out.set (by have := HSZ.out; have := Y1.out; have := YG1.out; have := Y2.out; have := YG2.out; have := Y3.out; show w.heap.size + 1 + 1 < _; omega) _
 have YG3 : Hid (w3.heap.size ≤ (w3.setCell ⟨w.heap.size + 1 + 1, 2, none⟩ (.slice qa1 b.qs.length qc1)).heap.size) := by show _ ≤ _; simp [World.setCell]
 generalize (w3.setCell ⟨w.heap.size + 1 + 1, 2, none⟩ (.slice qa1 b.qs.length qc1)) = v3 at *
 have HL : Hid (BLie v3 (w.heap.size + 1 + 1 + 1) v3.heap.size ⟨b.vs, ys1, ys2, b.cs, b.nx, va1, vc1, pa1, pc1, qa1, qc1⟩) :=
  ⟨w1.heap.size, w2.heap.size, by have := HSZ.out; have := Y1.out; omega, by have := YG1.out; have := Y2.out; omega, by have := YG2.out; have := Y3.out; have := YG3.out; omega, R1.out.mono HSZ.out (Nat.le_refl _), R2.out.mono YG1.out (Nat.le_refl _), R3.out.mono YG2.out YG3.out⟩
 have HSM : Hid (BSame b ⟨b.vs, ys1, ys2, b.cs, b.nx, va1, vc1, pa1, pc1, qa1, qc1⟩) := ⟨rfl, T1.out, T2.out, rfl, rfl⟩
 clear R1 R2 R3 T1 T2
 have x3 := BA3.out.c3
 have x4 := BA3.out.c4
 have o0 := BO3.out.c0
 have fo0 := BO3.out.fz 0
 have q0 := BR3.out.c0
 have fq0 := BR3.out.fz 0
 have o1 := BO3.out.c1
 have fo1 := BO3.out.fz 1
 have q1 := BR3.out.c1
 have fq1 := BR3.out.fz 1
 have o2 := BO3.out.c2
 have fo2 := BO3.out.fz 2
 have q2 := BR3.out.c2
 have fq2 := BR3.out.fz 2
 have o3 := BO3.out.c3
 have fo3 := BO3.out.fz 3
 have q3 := BR3.out.c3
 have fq3 := BR3.out.fz 3
 have o4 := BO3.out.c4
 have fo4 := BO3.out.fz 4
 have q4 := BR3.out.c4
 have fq4 := BR3.out.fz 4
 go_wp2
 refine bodyPost_ret (v := .agg #[.slice va1 b.vs.length vc1, .slice pa1 b.ps.length pc1, .slice qa1 b.qs.length qc1, .int .i64 b.cs, .int .i64 b.nx]) (by simp [results, Tryz.results23, go_sem, q0, q1, q2, q3, q4]) rfl ⟨⟨b.vs, ys1, ys2, b.cs, b.nx, va1, vc1, pa1, pc1, qa1, qc1⟩, by show _ = Ending.returned (.agg #[.slice va1 b.vs.length vc1, .slice pa1 ys1.length pc1, .slice qa1 ys2.length qc1, .int .i64 b.cs, .int .i64 b.nx]); rw [L1.out, L2.out], HSM.out, ?_, ?_⟩
 ·exact (((((((HL.out.set (by show _ + 1 + 1 < _; omega) _).set (by show _ + 1 + 1 < _; omega) _).set (by show _ + 1 < _; omega) _).set (by show _ + 1 < _; omega) _).set (by show _ + 1 < _; omega) _).set (by show _ + 1 < _; omega) _).set (by show _ + 1 < _; omega) _).mono (by omega) (by simp [World.setCell])
 ·exact (((((((HB3.out.setCell (by show _ ≤ _ + 1 + 1; omega) _).setCell (by show _ ≤ _ + 1 + 1; omega) _).setCell (by show _ ≤ _ + 1; omega) _).setCell (by show _ ≤ _ + 1; omega) _).setCell (by show _ ≤ _ + 1; omega) _).setCell (by show _ ≤ _ + 1; omega) _).setCell (by show _ ≤ _ + 1; omega) _)

end Go.Proofs.YtpnnncfbodfnhaaGreatDoor

namespace Go.Proofs.YtpnnncfbodfnhaaGreatDoor
open Go.RowKit
open KM
attribute [local go_sem ↓] Go.wp_at_zero Go.wp_at_succ

structure Rc where
 k : Int
 t : Ta
 nm : ByteArray
 yes : Bool
 b : Bb
structure RcRows (w : World) (r : Rc) : Prop where
 t : TRow w r.t.t r.t.ra r.t.wa
 b : BRows w r.b
theorem RcRows.below {w w' : World} {r : Rc} (h : RcRows w r) (hb : Below w.heap.size w w') : RcRows w' r := ⟨h.t.below hb, h.b.below hb⟩
structure RcArg (w : World) (r : Rc) : Prop where
 t : TArg w r.t.t r.t.ra r.t.wa
 nm : r.nm.size ≤ maxLen
 b : BArg w r.b
theorem RcArg.below {w w' : World} {r : Rc} (h : RcArg w r) (hb : Below w.heap.size w w') : RcArg w' r := ⟨h.t.below hb, h.nm, h.b.below hb⟩
theorem RcArg.rows {w : World} {r : Rc} (h : RcArg w r) : RcRows w r := ⟨h.t.row, h.b.rows⟩
structure RcFit (r : Rc) : Prop where
 t : TFit r.t.t
 nm : r.nm.size ≤ 1048576
 b : BFit r.b
structure RcSame (r c : Rc) : Prop where
 k : c.k = r.k
 t : c.t.t = r.t.t
 nm : c.nm = r.nm
 yes : c.yes = r.yes
 b : BSame r.b c.b
theorem RcSame.fit {r c : Rc} (h : RcSame r c) (hf : RcFit r) : RcFit c := ⟨by rw [h.t]; exact hf.t, by rw [h.nm]; exact hf.nm, h.b.fit hf.b⟩
theorem RcSame.trans {r c d : Rc} (h : RcSame r c) (k : RcSame c d) : RcSame r d := ⟨k.k.trans h.k, k.t.trans h.t, k.nm.trans h.nm, k.yes.trans h.yes, h.b.trans k.b⟩
theorem RcSame.symm {r c : Rc} (h : RcSame r c) : RcSame c r := ⟨h.k.symm, h.t.symm, h.nm.symm, h.yes.symm, h.b.symm⟩
structure RcLie (w : World) (lo hi : Nat) (c : Rc) : Prop where
 ex : ∃ m, lo ≤ m ∧ m ≤ hi ∧ TLie w lo m c.t.t c.t.ra c.t.rc c.t.wa c.t.wc ∧ BLie w m hi c.b
theorem RcLie.rows {w : World} {lo hi : Nat} {c : Rc} (h : RcLie w lo hi c) : RcRows w c := by
 obtain ⟨m, _, _, h1, h2⟩ := h.ex
 exact ⟨h1.row, h2.rows⟩
theorem RcLie.below {w w' : World} {lo hi : Nat} {c : Rc} (h : RcLie w lo hi c) (hb : Below w.heap.size w w') : RcLie w' lo hi c := by
 obtain ⟨m, a, b, h1, h2⟩ := h.ex
 exact ⟨m, a, b, h1.below hb, h2.below hb⟩
theorem RcLie.set {w : World} {lo hi : Nat} {c : Rc} (h : RcLie w lo hi c) {a : Addr} (ha : a.block < lo) (u : Value) : RcLie (w.setCell a u) lo hi c := by
 obtain ⟨m, k1, k2, h1, h2⟩ := h.ex
 exact ⟨m, k1, k2, h1.set ha u, h2.set (by omega) u⟩
theorem RcLie.mono {w : World} {lo hi lo' hi' : Nat} {c : Rc} (h : RcLie w lo hi c) (k : lo' ≤ lo) (k' : hi ≤ hi') : RcLie w lo' hi' c := by
 obtain ⟨m, k1, k2, h1, h2⟩ := h.ex
 exact ⟨m, by omega, by omega, h1.mono k (Nat.le_refl _), h2.mono (Nat.le_refl _) k'⟩
section
variable {w : World} {b : Nat}
theorem Bx.c8 {x0 x1 x2 x3 x4 x5 x6 x7 x8 : Value} {r : List Value} (h : Bx w b (x0 :: x1 :: x2 :: x3 :: x4 :: x5 :: x6 :: x7 :: x8 :: r)) : w.cell? ⟨b, 8, none⟩ = some x8 := h.at' 8 (by simp)
theorem Bx.c9 {x0 x1 x2 x3 x4 x5 x6 x7 x8 x9 : Value} {r : List Value} (h : Bx w b (x0 :: x1 :: x2 :: x3 :: x4 :: x5 :: x6 :: x7 :: x8 :: x9 :: r)) : w.cell? ⟨b, 9, none⟩ = some x9 := h.at' 9 (by simp)
theorem Bx.c10 {x0 x1 x2 x3 x4 x5 x6 x7 x8 x9 x10 : Value} {r : List Value} (h : Bx w b (x0 :: x1 :: x2 :: x3 :: x4 :: x5 :: x6 :: x7 :: x8 :: x9 :: x10 :: r)) : w.cell? ⟨b, 10, none⟩ = some x10 := h.at' 10 (by simp)
theorem Bx.c11 {x0 x1 x2 x3 x4 x5 x6 x7 x8 x9 x10 x11 : Value} {r : List Value} (h : Bx w b (x0 :: x1 :: x2 :: x3 :: x4 :: x5 :: x6 :: x7 :: x8 :: x9 :: x10 :: x11 :: r)) : w.cell? ⟨b, 11, none⟩ = some x11 := h.at' 11 (by simp)
theorem Bx.c12 {x0 x1 x2 x3 x4 x5 x6 x7 x8 x9 x10 x11 x12 : Value} {r : List Value} (h : Bx w b (x0 :: x1 :: x2 :: x3 :: x4 :: x5 :: x6 :: x7 :: x8 :: x9 :: x10 :: x11 :: x12 :: r)) : w.cell? ⟨b, 12, none⟩ = some x12 := h.at' 12 (by simp)
theorem Bx.c13 {x0 x1 x2 x3 x4 x5 x6 x7 x8 x9 x10 x11 x12 x13 : Value} {r : List Value} (h : Bx w b (x0 :: x1 :: x2 :: x3 :: x4 :: x5 :: x6 :: x7 :: x8 :: x9 :: x10 :: x11 :: x12 :: x13 :: r)) : w.cell? ⟨b, 13, none⟩ = some x13 := h.at' 13 (by simp)
theorem Bx.c14 {x0 x1 x2 x3 x4 x5 x6 x7 x8 x9 x10 x11 x12 x13 x14 : Value} {r : List Value} (h : Bx w b (x0 :: x1 :: x2 :: x3 :: x4 :: x5 :: x6 :: x7 :: x8 :: x9 :: x10 :: x11 :: x12 :: x13 :: x14 :: r)) : w.cell? ⟨b, 14, none⟩ = some x14 := h.at' 14 (by simp)
theorem Bx.c15 {x0 x1 x2 x3 x4 x5 x6 x7 x8 x9 x10 x11 x12 x13 x14 x15 : Value} {r : List Value} (h : Bx w b (x0 :: x1 :: x2 :: x3 :: x4 :: x5 :: x6 :: x7 :: x8 :: x9 :: x10 :: x11 :: x12 :: x13 :: x14 :: x15 :: r)) : w.cell? ⟨b, 15, none⟩ = some x15 := h.at' 15 (by simp)
end

set_option maxRecDepth 100000 in
set_option maxHeartbeats 2000000 in
theorem szR (r : Rc) (L : Int) (h0 : 0 ≤ L) (h1 : L ≤ 1048576) (w : World) (hp : RcArg w r) :
  Calls Tryz.prog 5 #[.agg #[.int .i64 r.k, .int .i64 r.t.t.id, .int .i64 r.t.t.st, .int .i64 r.t.t.snap, .int .i64 r.t.t.cs, .slice r.t.ra r.t.t.rs.length r.t.rc, .slice r.t.wa r.t.t.ws.length r.t.wc, .bool r.t.t.out, .string r.t.t.nm, .string r.nm, .bool r.yes, .slice r.b.va r.b.vs.length r.b.vc, .slice r.b.pa r.b.ps.length r.b.pc, .slice r.b.qa r.b.qs.length r.b.qc, .int .i64 r.b.cs, .int .i64 r.b.nx], .int .i64 L] w fun e w' => Below w.heap.size w w' ∧ ∃ q : Int, e = .returned (.int .i64 q) ∧ q ≤ 1048576 ∧ (0 ≤ q → RcFit r) := by
 have HP : Hid (RcArg w r) := hp
 have hnm := hp.nm
 unfold maxLen at hnm
 clear hp
 have BX0 : Hid (Bx (w.alloc (.cells #[.int .i64 r.k, .int .i64 r.t.t.id, .int .i64 r.t.t.st, .int .i64 r.t.t.snap, .int .i64 r.t.t.cs, .slice r.t.ra r.t.t.rs.length r.t.rc, .slice r.t.wa r.t.t.ws.length r.t.wc, .bool r.t.t.out, .string r.t.t.nm, .string r.nm, .bool r.yes, .slice r.b.va r.b.vs.length r.b.vc, .slice r.b.pa r.b.ps.length r.b.pc, .slice r.b.qa r.b.qs.length r.b.qc, .int .i64 r.b.cs, .int .i64 r.b.nx] 31)) w.heap.size [.int .i64 r.k, .int .i64 r.t.t.id, .int .i64 r.t.t.st, .int .i64 r.t.t.snap, .int .i64 r.t.t.cs, .slice r.t.ra r.t.t.rs.length r.t.rc, .slice r.t.wa r.t.t.ws.length r.t.wc, .bool r.t.t.out, .string r.t.t.nm, .string r.nm, .bool r.yes, .slice r.b.va r.b.vs.length r.b.vc, .slice r.b.pa r.b.ps.length r.b.pc, .slice r.b.qa r.b.qs.length r.b.qc, .int .i64 r.b.cs, .int .i64 r.b.nx]) := Bx.new w [.int .i64 r.k, .int .i64 r.t.t.id, .int .i64 r.t.t.st, .int .i64 r.t.t.snap, .int .i64 r.t.t.cs, .slice r.t.ra r.t.t.rs.length r.t.rc, .slice r.t.wa r.t.t.ws.length r.t.wc, .bool r.t.t.out, .string r.t.t.nm, .string r.nm, .bool r.yes, .slice r.b.va r.b.vs.length r.b.vc, .slice r.b.pa r.b.ps.length r.b.pc, .slice r.b.qa r.b.qs.length r.b.qc, .int .i64 r.b.cs, .int .i64 r.b.nx] 31
 have HB0 : Hid (Below w.heap.size w (w.alloc (.cells #[.int .i64 r.k, .int .i64 r.t.t.id, .int .i64 r.t.t.st, .int .i64 r.t.t.snap, .int .i64 r.t.t.cs, .slice r.t.ra r.t.t.rs.length r.t.rc, .slice r.t.wa r.t.t.ws.length r.t.wc, .bool r.t.t.out, .string r.t.t.nm, .string r.nm, .bool r.yes, .slice r.b.va r.b.vs.length r.b.vc, .slice r.b.pa r.b.ps.length r.b.pc, .slice r.b.qa r.b.qs.length r.b.qc, .int .i64 r.b.cs, .int .i64 r.b.nx] 31))) := (belowRefl w).alloc (Nat.le_refl _) _
 go_enter Tryz.func5, Tryz.ntmps5
 go_wp2_with fail
 refine (szT r.t.t r.t.ra r.t.wa r.t.rc r.t.wc L h0 h1 _ (HP.out.t.below HB0.out)).mono ?_
 rintro e w1 ⟨hb1, r0, rfl, hu0, hr0⟩
 have HR0 : Hid (0 ≤ r0 → TFit r.t.t) := hr0
 have HB1 : Hid (Below w.heap.size w w1) := HB0.out.trans (hb1.mono HB0.out.size)
 have BX1 : Hid (Bx w1 w.heap.size [.int .i64 r.k, .int .i64 r.t.t.id, .int .i64 r.t.t.st, .int .i64 r.t.t.snap, .int .i64 r.t.t.cs, .slice r.t.ra r.t.t.rs.length r.t.rc, .slice r.t.wa r.t.t.ws.length r.t.wc, .bool r.t.t.out, .string r.t.t.nm, .string r.nm, .bool r.yes, .slice r.b.va r.b.vs.length r.b.vc, .slice r.b.pa r.b.ps.length r.b.pc, .slice r.b.qa r.b.qs.length r.b.qc, .int .i64 r.b.cs, .int .i64 r.b.nx]) := BX0.out.below hb1
 clear hb1 hr0 BX0
 by_cases hn0 : r0 < 0
 ·go_wp2
  go_ret
  exact ⟨HB1.out, -1, rfl, by omega, fun h => by omega⟩
 have x9 := BX1.out.c9
 have ew : IntKind.i64.wrap (r0 - (r.nm.size : Int)) = r0 - r.nm.size := by rw [IntKind.wrap_i64]; omega
 by_cases hn1 : r0 - (r.nm.size : Int) < 0
 ·go_wp2
  go_ret
  exact ⟨HB1.out, -1, rfl, by omega, fun h => by omega⟩
 have hn2 : ¬ r0 - (r.nm.size : Int) < 0 := hn1
 have x11 := BX1.out.c11
 have x12 := BX1.out.c12
 have x13 := BX1.out.c13
 have x14 := BX1.out.c14
 have x15 := BX1.out.c15
 go_wp2_with fail
 refine (szB r.b (r0 - (r.nm.size : Int)) (by omega) (by omega) _ (HP.out.b.below HB1.out)).mono ?_
 rintro e w2 ⟨hb2, r1, rfl, hu1, hr1⟩
 have HR1 : Hid (0 ≤ r1 → BFit r.b) := hr1
 have HB2 : Hid (Below w.heap.size w w2) := HB1.out.trans (hb2.mono HB1.out.size)
 clear hb2 hr1 x9 x11 x12 x13 x14 x15 ew
 by_cases hn3 : r1 < 0
 ·go_wp2
  go_ret
  exact ⟨HB2.out, -1, rfl, by omega, fun h => by omega⟩
 have HT : Hid (RcFit r) := ⟨HR0.out (by omega), by omega, HR1.out (by omega)⟩
 go_wp2
 go_ret
 exact ⟨HB2.out, _, rfl, hu1, fun _ => HT.out⟩

set_option maxRecDepth 100000 in
set_option maxHeartbeats 2000000 in
theorem eqR0 (r c : Rc) (hs : RcSame r c) (hf : RcFit r) (w : World) (hp : RcRows w r) (hq : RcRows w c) :
  Calls Tryz.prog 9 #[.agg #[.int .i64 r.k, .int .i64 r.t.t.id, .int .i64 r.t.t.st, .int .i64 r.t.t.snap, .int .i64 r.t.t.cs, .slice r.t.ra r.t.t.rs.length r.t.rc, .slice r.t.wa r.t.t.ws.length r.t.wc, .bool r.t.t.out, .string r.t.t.nm, .string r.nm, .bool r.yes, .slice r.b.va r.b.vs.length r.b.vc, .slice r.b.pa r.b.ps.length r.b.pc, .slice r.b.qa r.b.qs.length r.b.qc, .int .i64 r.b.cs, .int .i64 r.b.nx], .agg #[.int .i64 r.k, .int .i64 r.t.t.id, .int .i64 r.t.t.st, .int .i64 r.t.t.snap, .int .i64 r.t.t.cs, .slice c.t.ra r.t.t.rs.length c.t.rc, .slice c.t.wa r.t.t.ws.length c.t.wc, .bool r.t.t.out, .string r.t.t.nm, .string r.nm, .bool r.yes, .slice c.b.va r.b.vs.length c.b.vc, .slice c.b.pa r.b.ps.length c.b.pc, .slice c.b.qa r.b.qs.length c.b.qc, .int .i64 r.b.cs, .int .i64 r.b.nx]] w fun e w' => e = .returned (.bool true) ∧ Below w.heap.size w w' := by
 have HP : Hid (RcRows w r) := hp
 have HQ : Hid (RcRows w c) := hq
 have HS : Hid (RcSame r c) := hs
 have HF : Hid (RcFit r) := hf
 clear hp hq hs hf
 have n3 := ne_self_int r.k
 have n4 : (r.yes != r.yes) = false := by cases r.yes <;> rfl
 have BA0 : Hid (Bx ((w.alloc (.cells #[.int .i64 r.k, .int .i64 r.t.t.id, .int .i64 r.t.t.st, .int .i64 r.t.t.snap, .int .i64 r.t.t.cs, .slice r.t.ra r.t.t.rs.length r.t.rc, .slice r.t.wa r.t.t.ws.length r.t.wc, .bool r.t.t.out, .string r.t.t.nm, .string r.nm, .bool r.yes, .slice r.b.va r.b.vs.length r.b.vc, .slice r.b.pa r.b.ps.length r.b.pc, .slice r.b.qa r.b.qs.length r.b.qc, .int .i64 r.b.cs, .int .i64 r.b.nx] 44)).alloc (.cells #[.int .i64 r.k, .int .i64 r.t.t.id, .int .i64 r.t.t.st, .int .i64 r.t.t.snap, .int .i64 r.t.t.cs, .slice c.t.ra r.t.t.rs.length c.t.rc, .slice c.t.wa r.t.t.ws.length c.t.wc, .bool r.t.t.out, .string r.t.t.nm, .string r.nm, .bool r.yes, .slice c.b.va r.b.vs.length c.b.vc, .slice c.b.pa r.b.ps.length c.b.pc, .slice c.b.qa r.b.qs.length c.b.qc, .int .i64 r.b.cs, .int .i64 r.b.nx] 44)) w.heap.size [.int .i64 r.k, .int .i64 r.t.t.id, .int .i64 r.t.t.st, .int .i64 r.t.t.snap, .int .i64 r.t.t.cs, .slice r.t.ra r.t.t.rs.length r.t.rc, .slice r.t.wa r.t.t.ws.length r.t.wc, .bool r.t.t.out, .string r.t.t.nm, .string r.nm, .bool r.yes, .slice r.b.va r.b.vs.length r.b.vc, .slice r.b.pa r.b.ps.length r.b.pc, .slice r.b.qa r.b.qs.length r.b.qc, .int .i64 r.b.cs, .int .i64 r.b.nx]) := (Bx.new w [.int .i64 r.k, .int .i64 r.t.t.id, .int .i64 r.t.t.st, .int .i64 r.t.t.snap, .int .i64 r.t.t.cs, .slice r.t.ra r.t.t.rs.length r.t.rc, .slice r.t.wa r.t.t.ws.length r.t.wc, .bool r.t.t.out, .string r.t.t.nm, .string r.nm, .bool r.yes, .slice r.b.va r.b.vs.length r.b.vc, .slice r.b.pa r.b.ps.length r.b.pc, .slice r.b.qa r.b.qs.length r.b.qc, .int .i64 r.b.cs, .int .i64 r.b.nx] 44).alloc _
 have BB0 : Hid (Bx ((w.alloc (.cells #[.int .i64 r.k, .int .i64 r.t.t.id, .int .i64 r.t.t.st, .int .i64 r.t.t.snap, .int .i64 r.t.t.cs, .slice r.t.ra r.t.t.rs.length r.t.rc, .slice r.t.wa r.t.t.ws.length r.t.wc, .bool r.t.t.out, .string r.t.t.nm, .string r.nm, .bool r.yes, .slice r.b.va r.b.vs.length r.b.vc, .slice r.b.pa r.b.ps.length r.b.pc, .slice r.b.qa r.b.qs.length r.b.qc, .int .i64 r.b.cs, .int .i64 r.b.nx] 44)).alloc (.cells #[.int .i64 r.k, .int .i64 r.t.t.id, .int .i64 r.t.t.st, .int .i64 r.t.t.snap, .int .i64 r.t.t.cs, .slice c.t.ra r.t.t.rs.length c.t.rc, .slice c.t.wa r.t.t.ws.length c.t.wc, .bool r.t.t.out, .string r.t.t.nm, .string r.nm, .bool r.yes, .slice c.b.va r.b.vs.length c.b.vc, .slice c.b.pa r.b.ps.length c.b.pc, .slice c.b.qa r.b.qs.length c.b.qc, .int .i64 r.b.cs, .int .i64 r.b.nx] 44)) (w.heap.size + 1) [.int .i64 r.k, .int .i64 r.t.t.id, .int .i64 r.t.t.st, .int .i64 r.t.t.snap, .int .i64 r.t.t.cs, .slice c.t.ra r.t.t.rs.length c.t.rc, .slice c.t.wa r.t.t.ws.length c.t.wc, .bool r.t.t.out, .string r.t.t.nm, .string r.nm, .bool r.yes, .slice c.b.va r.b.vs.length c.b.vc, .slice c.b.pa r.b.ps.length c.b.pc, .slice c.b.qa r.b.qs.length c.b.qc, .int .i64 r.b.cs, .int .i64 r.b.nx]) := by
  have h := Bx.new (w.alloc (.cells #[.int .i64 r.k, .int .i64 r.t.t.id, .int .i64 r.t.t.st, .int .i64 r.t.t.snap, .int .i64 r.t.t.cs, .slice r.t.ra r.t.t.rs.length r.t.rc, .slice r.t.wa r.t.t.ws.length r.t.wc, .bool r.t.t.out, .string r.t.t.nm, .string r.nm, .bool r.yes, .slice r.b.va r.b.vs.length r.b.vc, .slice r.b.pa r.b.ps.length r.b.pc, .slice r.b.qa r.b.qs.length r.b.qc, .int .i64 r.b.cs, .int .i64 r.b.nx] 44)) [.int .i64 r.k, .int .i64 r.t.t.id, .int .i64 r.t.t.st, .int .i64 r.t.t.snap, .int .i64 r.t.t.cs, .slice c.t.ra r.t.t.rs.length c.t.rc, .slice c.t.wa r.t.t.ws.length c.t.wc, .bool r.t.t.out, .string r.t.t.nm, .string r.nm, .bool r.yes, .slice c.b.va r.b.vs.length c.b.vc, .slice c.b.pa r.b.ps.length c.b.pc, .slice c.b.qa r.b.qs.length c.b.qc, .int .i64 r.b.cs, .int .i64 r.b.nx] 44
  rw [World.size_alloc] at h
  exact h
 have HB0 : Hid (Below w.heap.size w ((w.alloc (.cells #[.int .i64 r.k, .int .i64 r.t.t.id, .int .i64 r.t.t.st, .int .i64 r.t.t.snap, .int .i64 r.t.t.cs, .slice r.t.ra r.t.t.rs.length r.t.rc, .slice r.t.wa r.t.t.ws.length r.t.wc, .bool r.t.t.out, .string r.t.t.nm, .string r.nm, .bool r.yes, .slice r.b.va r.b.vs.length r.b.vc, .slice r.b.pa r.b.ps.length r.b.pc, .slice r.b.qa r.b.qs.length r.b.qc, .int .i64 r.b.cs, .int .i64 r.b.nx] 44)).alloc (.cells #[.int .i64 r.k, .int .i64 r.t.t.id, .int .i64 r.t.t.st, .int .i64 r.t.t.snap, .int .i64 r.t.t.cs, .slice c.t.ra r.t.t.rs.length c.t.rc, .slice c.t.wa r.t.t.ws.length c.t.wc, .bool r.t.t.out, .string r.t.t.nm, .string r.nm, .bool r.yes, .slice c.b.va r.b.vs.length c.b.vc, .slice c.b.pa r.b.ps.length c.b.pc, .slice c.b.qa r.b.qs.length c.b.qc, .int .i64 r.b.cs, .int .i64 r.b.nx] 44))) := ((belowRefl w).alloc (Nat.le_refl _) _).alloc (by simp) _
 have CT : Hid (∀ W : World, Below w.heap.size w W → Calls Tryz.prog 28 #[.agg #[.int .i64 r.t.t.id, .int .i64 r.t.t.st, .int .i64 r.t.t.snap, .int .i64 r.t.t.cs, .slice r.t.ra r.t.t.rs.length r.t.rc, .slice r.t.wa r.t.t.ws.length r.t.wc, .bool r.t.t.out, .string r.t.t.nm], .agg #[.int .i64 r.t.t.id, .int .i64 r.t.t.st, .int .i64 r.t.t.snap, .int .i64 r.t.t.cs, .slice c.t.ra r.t.t.rs.length c.t.rc, .slice c.t.wa r.t.t.ws.length c.t.wc, .bool r.t.t.out, .string r.t.t.nm]] W fun e w' => e = .returned (.bool true) ∧ Below W.heap.size W w') := fun W h => eqT r.t.t r.t.ra r.t.wa c.t.ra c.t.wa r.t.rc r.t.wc c.t.rc c.t.wc (Nat.le_trans HF.out.t.1 (by omega)) (Nat.le_trans HF.out.t.2.2.1 (by omega)) W (HP.out.t.below h) (by have k := HQ.out.t.below h; rw [HS.out.t] at k; exact k)
 have CB : Hid (∀ W : World, Below w.heap.size w W → Calls Tryz.prog 29 #[.agg #[.slice r.b.va r.b.vs.length r.b.vc, .slice r.b.pa r.b.ps.length r.b.pc, .slice r.b.qa r.b.qs.length r.b.qc, .int .i64 r.b.cs, .int .i64 r.b.nx], .agg #[.slice c.b.va r.b.vs.length c.b.vc, .slice c.b.pa r.b.ps.length c.b.pc, .slice c.b.qa r.b.qs.length c.b.qc, .int .i64 r.b.cs, .int .i64 r.b.nx]] W fun e w' => e = .returned (.bool true) ∧ Below W.heap.size W w') := fun W h => eqB0 r.b c.b HS.out.b HF.out.b W (HP.out.b.below h) (HQ.out.b.below h)
 clear HP HQ HS HF
 go_enter Tryz.func9, Tryz.ntmps9
 go_wp2_with fail
 refine (CT.out _ HB0.out).mono ?_
 rintro e w1 ⟨rfl, hb1⟩
 have BA1 : Hid (Bx w1 w.heap.size [.int .i64 r.k, .int .i64 r.t.t.id, .int .i64 r.t.t.st, .int .i64 r.t.t.snap, .int .i64 r.t.t.cs, .slice r.t.ra r.t.t.rs.length r.t.rc, .slice r.t.wa r.t.t.ws.length r.t.wc, .bool r.t.t.out, .string r.t.t.nm, .string r.nm, .bool r.yes, .slice r.b.va r.b.vs.length r.b.vc, .slice r.b.pa r.b.ps.length r.b.pc, .slice r.b.qa r.b.qs.length r.b.qc, .int .i64 r.b.cs, .int .i64 r.b.nx]) := BA0.out.below hb1
 have BB1 : Hid (Bx w1 (w.heap.size + 1) [.int .i64 r.k, .int .i64 r.t.t.id, .int .i64 r.t.t.st, .int .i64 r.t.t.snap, .int .i64 r.t.t.cs, .slice c.t.ra r.t.t.rs.length c.t.rc, .slice c.t.wa r.t.t.ws.length c.t.wc, .bool r.t.t.out, .string r.t.t.nm, .string r.nm, .bool r.yes, .slice c.b.va r.b.vs.length c.b.vc, .slice c.b.pa r.b.ps.length c.b.pc, .slice c.b.qa r.b.qs.length c.b.qc, .int .i64 r.b.cs, .int .i64 r.b.nx]) := BB0.out.below hb1
 have HB1 : Hid (Below w.heap.size w w1) := HB0.out.trans (hb1.mono HB0.out.size)
 clear hb1 BA0 BB0 HB0
 have x9 := BA1.out.c9
 have y9 := BB1.out.c9
 have x10 := BA1.out.c10
 have y10 := BB1.out.c10
 have x11 := BA1.out.c11
 have y11 := BB1.out.c11
 have x12 := BA1.out.c12
 have y12 := BB1.out.c12
 have x13 := BA1.out.c13
 have y13 := BB1.out.c13
 have x14 := BA1.out.c14
 have y14 := BB1.out.c14
 have x15 := BA1.out.c15
 have y15 := BB1.out.c15
 go_wp2_with fail
 refine (CB.out _ HB1.out).mono ?_
 rintro e w2 ⟨rfl, hb2⟩
 have HB2 : Hid (Below w.heap.size w w2) := HB1.out.trans (hb2.mono HB1.out.size)
 clear hb2
 go_wp2
 go_ret
 exact ⟨rfl, HB2.out⟩

theorem eqR (r c : Rc) (hs : RcSame r c) (hf : RcFit r) (w : World) (hp : RcRows w r) (hq : RcRows w c) :
  Calls Tryz.prog 9 #[.agg #[.int .i64 r.k, .int .i64 r.t.t.id, .int .i64 r.t.t.st, .int .i64 r.t.t.snap, .int .i64 r.t.t.cs, .slice r.t.ra r.t.t.rs.length r.t.rc, .slice r.t.wa r.t.t.ws.length r.t.wc, .bool r.t.t.out, .string r.t.t.nm, .string r.nm, .bool r.yes, .slice r.b.va r.b.vs.length r.b.vc, .slice r.b.pa r.b.ps.length r.b.pc, .slice r.b.qa r.b.qs.length r.b.qc, .int .i64 r.b.cs, .int .i64 r.b.nx], .agg #[.int .i64 c.k, .int .i64 c.t.t.id, .int .i64 c.t.t.st, .int .i64 c.t.t.snap, .int .i64 c.t.t.cs, .slice c.t.ra c.t.t.rs.length c.t.rc, .slice c.t.wa c.t.t.ws.length c.t.wc, .bool c.t.t.out, .string c.t.t.nm, .string c.nm, .bool c.yes, .slice c.b.va c.b.vs.length c.b.vc, .slice c.b.pa c.b.ps.length c.b.pc, .slice c.b.qa c.b.qs.length c.b.qc, .int .i64 c.b.cs, .int .i64 c.b.nx]] w fun e w' => e = .returned (.bool true) ∧ Below w.heap.size w w' := by
 have h := eqR0 r c hs hf w hp hq
 rw [← hs.k, ← hs.nm, ← hs.yes, ← hs.b.cs, ← hs.b.nx] at h
 rw [← hs.k, ← hs.nm, ← hs.yes, ← hs.b.cs, ← hs.b.nx]
 have e1 := hs.t
 rw [← hs.b.vl, ← hs.b.pl, ← hs.b.ql] at h
 rw [← hs.b.vl, ← hs.b.pl, ← hs.b.ql]
 rw [← hs.t] at h ⊢
 exact h

end Go.Proofs.YtpnnncfbodfnhaaGreatDoor
