/- What stays: what laws toBase does. -/
import Derived.Test.YtjieojfcmigcdaaGreatDoorPw17
import Derived.Test.YtjieojfcmigcdaaGreatDoorPw18
import Derived.Deep.RegionHeld3
import Derived.Deep.Cut
import Derived.Deep.CutRange
namespace Go.Proofs.YtjieojfcmigcdaaGreatDoor
open Go.RowKit
open KM
attribute [local go_sem ↓] Go.wp_at_zero Go.wp_at_succ

structure BLie (w : World) (lo hi : Nat) (c : Bb) : Prop where
 ex : ∃ m1 m2, lo ≤ m1 ∧ m1 ≤ m2 ∧ m2 ≤ hi ∧ Lies encV 124 w lo m1 (.slice c.va c.vs.length c.vc) c.vs ∧ LLie w m1 m2 (.slice c.pa c.ps.length c.pc) c.ps ∧ LLie w m2 hi (.slice c.qa c.qs.length c.qc) c.qs
theorem BLie.rows {w : World} {lo hi : Nat} {c : Bb} (h : BLie w lo hi c) : BRows w c := by
 obtain ⟨m1, m2, _, _, _, h1, h2, h3⟩ := h.ex
 exact ⟨h1.own.grow, h2.rows, h3.rows⟩
theorem BLie.below {w w' : World} {lo hi : Nat} {c : Bb} (h : BLie w lo hi c) (hb : Below w.heap.size w w') : BLie w' lo hi c := by
 obtain ⟨m1, m2, a, b, d, h1, h2, h3⟩ := h.ex
 exact ⟨m1, m2, a, b, d, h1.below hb, h2.below hb, h3.below hb⟩
theorem BLie.set {w : World} {lo hi : Nat} {c : Bb} (h : BLie w lo hi c) {a : Addr} (ha : a.block < lo) (u : Value) : BLie (w.setCell a u) lo hi c := by
 obtain ⟨m1, m2, k1, k2, k3, h1, h2, h3⟩ := h.ex
 exact ⟨m1, m2, k1, k2, k3, h1.set ha u, h2.set (by omega) u, h3.set (by omega) u⟩
theorem BLie.mono {w : World} {lo hi lo' hi' : Nat} {c : Bb} (h : BLie w lo hi c) (k : lo' ≤ lo) (k' : hi ≤ hi') : BLie w lo' hi' c := by
 obtain ⟨m1, m2, k1, k2, k3, h1, h2, h3⟩ := h.ex
 exact ⟨m1, m2, by omega, k2, by omega, h1.mono k (Nat.le_refl _), h2, h3.mono (Nat.le_refl _) k'⟩
set_option maxRecDepth 100000 in
set_option maxHeartbeats 4000000 in
theorem toB (b : Bb) (hf : BFit b) (w : World) (hp : BRows w b) :
  Calls Tryz.prog 44 #[.agg #[.slice b.va b.vs.length b.vc, .slice b.pa b.ps.length b.pc, .slice b.qa b.qs.length b.qc, .int .i64 b.cs, .int .i64 b.nx]] w fun e w' => ∃ c : Bb, e = .returned (.agg #[.slice c.va c.vs.length c.vc, .slice c.pa c.ps.length c.pc, .slice c.qa c.qs.length c.qc, .int .i64 c.cs, .int .i64 c.nx]) ∧ BSame b c ∧ BLie w' w.heap.size w'.heap.size c ∧ Below w.heap.size w w' := by
 have HP : Hid (BRows w b) := hp
 have HF : Hid (BFit b) := hf
 clear hp hf
 have BA0 : Hid (Bx (((w.alloc (.cells #[.slice b.va b.vs.length b.vc, .slice b.pa b.ps.length b.pc, .slice b.qa b.qs.length b.qc, .int .i64 b.cs, .int .i64 b.nx] 25)).alloc (.cells #[.slice none 0 0, .slice none 0 0, .slice none 0 0, .int .i64 0, .int .i64 0] 39)).alloc (.cells #[.slice none 0 0, .slice none 0 0, .slice none 0 0, .int .i64 0, .int .i64 0] 39)) w.heap.size [.slice b.va b.vs.length b.vc, .slice b.pa b.ps.length b.pc, .slice b.qa b.qs.length b.qc, .int .i64 b.cs, .int .i64 b.nx]) := ((Bx.new w [.slice b.va b.vs.length b.vc, .slice b.pa b.ps.length b.pc, .slice b.qa b.qs.length b.qc, .int .i64 b.cs, .int .i64 b.nx] 25).alloc _).alloc _
 have BR0 : Hid (Bx (((w.alloc (.cells #[.slice b.va b.vs.length b.vc, .slice b.pa b.ps.length b.pc, .slice b.qa b.qs.length b.qc, .int .i64 b.cs, .int .i64 b.nx] 25)).alloc (.cells #[.slice none 0 0, .slice none 0 0, .slice none 0 0, .int .i64 0, .int .i64 0] 39)).alloc (.cells #[.slice none 0 0, .slice none 0 0, .slice none 0 0, .int .i64 0, .int .i64 0] 39)) (w.heap.size + 1) [.slice none 0 0, .slice none 0 0, .slice none 0 0, .int .i64 0, .int .i64 0]) := by
  have h := (Bx.new (w.alloc (.cells #[.slice b.va b.vs.length b.vc, .slice b.pa b.ps.length b.pc, .slice b.qa b.qs.length b.qc, .int .i64 b.cs, .int .i64 b.nx] 25)) [.slice none 0 0, .slice none 0 0, .slice none 0 0, .int .i64 0, .int .i64 0] 39).alloc (.cells #[.slice none 0 0, .slice none 0 0, .slice none 0 0, .int .i64 0, .int .i64 0] 39)
  rw [show (w.alloc (.cells #[.slice b.va b.vs.length b.vc, .slice b.pa b.ps.length b.pc, .slice b.qa b.qs.length b.qc, .int .i64 b.cs, .int .i64 b.nx] 25)).heap.size = w.heap.size + 1 by simp] at h
  exact h
 have BO0 : Hid (Bx (((w.alloc (.cells #[.slice b.va b.vs.length b.vc, .slice b.pa b.ps.length b.pc, .slice b.qa b.qs.length b.qc, .int .i64 b.cs, .int .i64 b.nx] 25)).alloc (.cells #[.slice none 0 0, .slice none 0 0, .slice none 0 0, .int .i64 0, .int .i64 0] 39)).alloc (.cells #[.slice none 0 0, .slice none 0 0, .slice none 0 0, .int .i64 0, .int .i64 0] 39)) (w.heap.size + 1 + 1) [.slice none 0 0, .slice none 0 0, .slice none 0 0, .int .i64 0, .int .i64 0]) := by
  have h := Bx.new ((w.alloc (.cells #[.slice b.va b.vs.length b.vc, .slice b.pa b.ps.length b.pc, .slice b.qa b.qs.length b.qc, .int .i64 b.cs, .int .i64 b.nx] 25)).alloc (.cells #[.slice none 0 0, .slice none 0 0, .slice none 0 0, .int .i64 0, .int .i64 0] 39)) [.slice none 0 0, .slice none 0 0, .slice none 0 0, .int .i64 0, .int .i64 0] 39
  rw [show ((w.alloc (.cells #[.slice b.va b.vs.length b.vc, .slice b.pa b.ps.length b.pc, .slice b.qa b.qs.length b.qc, .int .i64 b.cs, .int .i64 b.nx] 25)).alloc (.cells #[.slice none 0 0, .slice none 0 0, .slice none 0 0, .int .i64 0, .int .i64 0] 39)).heap.size = w.heap.size + 1 + 1 by simp] at h
  exact h
 have HB0 : Hid (Below w.heap.size w (((w.alloc (.cells #[.slice b.va b.vs.length b.vc, .slice b.pa b.ps.length b.pc, .slice b.qa b.qs.length b.qc, .int .i64 b.cs, .int .i64 b.nx] 25)).alloc (.cells #[.slice none 0 0, .slice none 0 0, .slice none 0 0, .int .i64 0, .int .i64 0] 39)).alloc (.cells #[.slice none 0 0, .slice none 0 0, .slice none 0 0, .int .i64 0, .int .i64 0] 39))) := (((belowRefl w).alloc (Nat.le_refl _) _).alloc (by simp) _).alloc (by simp; omega) _
 have S0 : Hid ((((w.alloc (.cells #[.slice b.va b.vs.length b.vc, .slice b.pa b.ps.length b.pc, .slice b.qa b.qs.length b.qc, .int .i64 b.cs, .int .i64 b.nx] 25)).alloc (.cells #[.slice none 0 0, .slice none 0 0, .slice none 0 0, .int .i64 0, .int .i64 0] 39)).alloc (.cells #[.slice none 0 0, .slice none 0 0, .slice none 0 0, .int .i64 0, .int .i64 0] 39)).heap.size = w.heap.size + 1 + 1 + 1) := by show _ = _; simp
 have HSZ : Hid (w.heap.size + 1 + 1 + 1 ≤ (((w.alloc (.cells #[.slice b.va b.vs.length b.vc, .slice b.pa b.ps.length b.pc, .slice b.qa b.qs.length b.qc, .int .i64 b.cs, .int .i64 b.nx] 25)).alloc (.cells #[.slice none 0 0, .slice none 0 0, .slice none 0 0, .int .i64 0, .int .i64 0] 39)).alloc (.cells #[.slice none 0 0, .slice none 0 0, .slice none 0 0, .int .i64 0, .int .i64 0] 39)).heap.size) := by show _ ≤ _; rw [S0.out]; exact Nat.le_refl _
 have CV : Hid (∀ W : World, Below w.heap.size w W → Calls Tryz.prog 61 #[.slice b.va b.vs.length b.vc] W fun e w' => ∃ a1 c1, e = .returned (.slice a1 b.vs.length c1) ∧ GOwn encV 124 w' W.heap.size (.slice a1 b.vs.length c1) b.vs ∧ Below W.heap.size W w') := fun W h => toSV b.vs b.va b.vc (Nat.le_trans HF.out.vl (by omega)) W (HP.out.v.below h)
 have CP : Hid (∀ W : World, Below w.heap.size w W → Calls Tryz.prog 31 #[.slice b.pa b.ps.length b.pc] W fun e w' => ∃ (ys : List Ta) (a1 : Option Addr) (c1 : Nat), e = .returned (.slice a1 b.ps.length c1) ∧ txs ys = txs b.ps ∧ ys.length = b.ps.length ∧ LLie w' W.heap.size w'.heap.size (.slice a1 ys.length c1) ys ∧ Below W.heap.size W w') := fun W h => toL2 b.ps b.pa b.pc (Nat.le_trans HF.out.pl (by omega)) HF.out.p W (HP.out.p.below h)
 have CQ : Hid (∀ W : World, Below w.heap.size w W → Calls Tryz.prog 31 #[.slice b.qa b.qs.length b.qc] W fun e w' => ∃ (ys : List Ta) (a1 : Option Addr) (c1 : Nat), e = .returned (.slice a1 b.qs.length c1) ∧ txs ys = txs b.qs ∧ ys.length = b.qs.length ∧ LLie w' W.heap.size w'.heap.size (.slice a1 ys.length c1) ys ∧ Below W.heap.size W w') := fun W h => toL2 b.qs b.qa b.qc (Nat.le_trans HF.out.ql (by omega)) HF.out.q W (HP.out.q.below h)
 clear HP HF S0
 go_enter Tryz.func44, Tryz.ntmps44
 go_upto_region 2 with fail
 generalize (((w.alloc (.cells #[.slice b.va b.vs.length b.vc, .slice b.pa b.ps.length b.pc, .slice b.qa b.qs.length b.qc, .int .i64 b.cs, .int .i64 b.nx] 25)).alloc (.cells #[.slice none 0 0, .slice none 0 0, .slice none 0 0, .int .i64 0, .int .i64 0] 39)).alloc (.cells #[.slice none 0 0, .slice none 0 0, .slice none 0 0, .int .i64 0, .int .i64 0] 39)) = w0 at *
 have x0 := BA0.out.c0
 go_wp2_with fail
 refine (CV.out _ HB0.out).mono ?_
 rintro e w1 ⟨va1, vc1, rfl, ho, hb⟩
 have BA1 : Hid (Bx w1 w.heap.size [.slice b.va b.vs.length b.vc, .slice b.pa b.ps.length b.pc, .slice b.qa b.qs.length b.qc, .int .i64 b.cs, .int .i64 b.nx]) := BA0.out.below hb
 have BR1 : Hid (Bx w1 (w.heap.size + 1) [.slice none 0 0, .slice none 0 0, .slice none 0 0, .int .i64 0, .int .i64 0]) := BR0.out.below hb
 have BO1 : Hid (Bx w1 (w.heap.size + 1 + 1) [.slice none 0 0, .slice none 0 0, .slice none 0 0, .int .i64 0, .int .i64 0]) := BO0.out.below hb
 have HB1 : Hid (Below w.heap.size w w1) := HB0.out.trans (hb.mono HB0.out.size)
 have Y1 : Hid (w0.heap.size ≤ w1.heap.size) := hb.size
 have R1 : Hid (Lies encV 124 w1 w0.heap.size w1.heap.size (.slice va1 b.vs.length vc1) b.vs) := Lies.of ho
 clear ho
 clear hb x0 BA0 BR0 BO0 HB0
 have o4 := BO1.out.c0
 have f4 := BO1.out.fz 0
 go_upto_region 3 with fail
 clear o4 f4
 replace BA1 : Hid (Bx (w1.setCell ⟨w.heap.size + 1 + 1, 0, none⟩ (.slice va1 b.vs.length vc1)) w.heap.size [.slice b.va b.vs.length b.vc, .slice b.pa b.ps.length b.pc, .slice b.qa b.qs.length b.qc, .int .i64 b.cs, .int .i64 b.nx]) := BA1.out.setO (by show w.heap.size + 1 + 1 ≠ w.heap.size; omega) _
 replace BR1 : Hid (Bx (w1.setCell ⟨w.heap.size + 1 + 1, 0, none⟩ (.slice va1 b.vs.length vc1)) (w.heap.size + 1) [.slice none 0 0, .slice none 0 0, .slice none 0 0, .int .i64 0, .int .i64 0]) := BR1.out.setO (by show w.heap.size + 1 + 1 ≠ w.heap.size + 1; omega) _
 replace BO1 : Hid (Bx (w1.setCell ⟨w.heap.size + 1 + 1, 0, none⟩ (.slice va1 b.vs.length vc1)) (w.heap.size + 1 + 1) [.slice va1 b.vs.length vc1, .slice none 0 0, .slice none 0 0, .int .i64 0, .int .i64 0]) := BO1.out.set 0 _
 replace HB1 : Hid (Below w.heap.size w (w1.setCell ⟨w.heap.size + 1 + 1, 0, none⟩ (.slice va1 b.vs.length vc1))) := HB1.out.setCell (by show _ ≤ _ + 1 + 1; omega) _
 replace R1 : Hid (Lies encV 124 (w1.setCell ⟨w.heap.size + 1 + 1, 0, none⟩ (.slice va1 b.vs.length vc1)) w0.heap.size w1.heap.size (.slice va1 b.vs.length vc1) b.vs) := R1.out.set (by have := HSZ.out; have := Y1.out; show w.heap.size + 1 + 1 < _; omega) _
 have YG1 : Hid (w1.heap.size ≤ (w1.setCell ⟨w.heap.size + 1 + 1, 0, none⟩ (.slice va1 b.vs.length vc1)).heap.size) := by show _ ≤ _; simp [World.setCell]
 generalize (w1.setCell ⟨w.heap.size + 1 + 1, 0, none⟩ (.slice va1 b.vs.length vc1)) = v1 at *
 have x1 := BA1.out.c1
 go_wp2_with fail
 refine (CP.out _ HB1.out).mono ?_
 rintro e w2 ⟨ys1, pa1, pc1, rfl, ht, hl, ho, hb⟩
 have BA2 : Hid (Bx w2 w.heap.size [.slice b.va b.vs.length b.vc, .slice b.pa b.ps.length b.pc, .slice b.qa b.qs.length b.qc, .int .i64 b.cs, .int .i64 b.nx]) := BA1.out.below hb
 have BR2 : Hid (Bx w2 (w.heap.size + 1) [.slice none 0 0, .slice none 0 0, .slice none 0 0, .int .i64 0, .int .i64 0]) := BR1.out.below hb
 have BO2 : Hid (Bx w2 (w.heap.size + 1 + 1) [.slice va1 b.vs.length vc1, .slice none 0 0, .slice none 0 0, .int .i64 0, .int .i64 0]) := BO1.out.below hb
 have HB2 : Hid (Below w.heap.size w w2) := HB1.out.trans (hb.mono HB1.out.size)
 replace R1 : Hid (Lies encV 124 w2 w0.heap.size w1.heap.size (.slice va1 b.vs.length vc1) b.vs) := R1.out.below hb
 have Y2 : Hid (v1.heap.size ≤ w2.heap.size) := hb.size
 have T1 : Hid (txs ys1 = txs b.ps) := ht
 have L1 : Hid (ys1.length = b.ps.length) := hl
 have R2 : Hid (LLie w2 v1.heap.size w2.heap.size (.slice pa1 ys1.length pc1) ys1) := ho
 clear ho ht hl
 clear hb x1 BA1 BR1 BO1 HB1
 have o4 := BO2.out.c1
 have f4 := BO2.out.fz 1
 go_upto_region 4 with fail
 clear o4 f4
 replace BA2 : Hid (Bx (w2.setCell ⟨w.heap.size + 1 + 1, 1, none⟩ (.slice pa1 b.ps.length pc1)) w.heap.size [.slice b.va b.vs.length b.vc, .slice b.pa b.ps.length b.pc, .slice b.qa b.qs.length b.qc, .int .i64 b.cs, .int .i64 b.nx]) := BA2.out.setO (by show w.heap.size + 1 + 1 ≠ w.heap.size; omega) _
 replace BR2 : Hid (Bx (w2.setCell ⟨w.heap.size + 1 + 1, 1, none⟩ (.slice pa1 b.ps.length pc1)) (w.heap.size + 1) [.slice none 0 0, .slice none 0 0, .slice none 0 0, .int .i64 0, .int .i64 0]) := BR2.out.setO (by show w.heap.size + 1 + 1 ≠ w.heap.size + 1; omega) _
 replace BO2 : Hid (Bx (w2.setCell ⟨w.heap.size + 1 + 1, 1, none⟩ (.slice pa1 b.ps.length pc1)) (w.heap.size + 1 + 1) [.slice va1 b.vs.length vc1, .slice pa1 b.ps.length pc1, .slice none 0 0, .int .i64 0, .int .i64 0]) := BO2.out.set 1 _
 replace HB2 : Hid (Below w.heap.size w (w2.setCell ⟨w.heap.size + 1 + 1, 1, none⟩ (.slice pa1 b.ps.length pc1))) := HB2.out.setCell (by show _ ≤ _ + 1 + 1; omega) _
 replace R1 : Hid (Lies encV 124 (w2.setCell ⟨w.heap.size + 1 + 1, 1, none⟩ (.slice pa1 b.ps.length pc1)) w0.heap.size w1.heap.size (.slice va1 b.vs.length vc1) b.vs) := R1.out.set (by have := HSZ.out; have := Y1.out; have := YG1.out; have := Y2.out; show w.heap.size + 1 + 1 < _; omega) _
 replace R2 : Hid (LLie (w2.setCell ⟨w.heap.size + 1 + 1, 1, none⟩ (.slice pa1 b.ps.length pc1)) v1.heap.size w2.heap.size (.slice pa1 ys1.length pc1) ys1) := R2.out.set (by have := HSZ.out; have := Y1.out; have := YG1.out; have := Y2.out; show w.heap.size + 1 + 1 < _; omega) _
 have YG2 : Hid (w2.heap.size ≤ (w2.setCell ⟨w.heap.size + 1 + 1, 1, none⟩ (.slice pa1 b.ps.length pc1)).heap.size) := by show _ ≤ _; simp [World.setCell]
 generalize (w2.setCell ⟨w.heap.size + 1 + 1, 1, none⟩ (.slice pa1 b.ps.length pc1)) = v2 at *
 have x2 := BA2.out.c2
 go_wp2_with fail
 refine (CQ.out _ HB2.out).mono ?_
 rintro e w3 ⟨ys2, qa1, qc1, rfl, ht, hl, ho, hb⟩
 have BA3 : Hid (Bx w3 w.heap.size [.slice b.va b.vs.length b.vc, .slice b.pa b.ps.length b.pc, .slice b.qa b.qs.length b.qc, .int .i64 b.cs, .int .i64 b.nx]) := BA2.out.below hb
 have BR3 : Hid (Bx w3 (w.heap.size + 1) [.slice none 0 0, .slice none 0 0, .slice none 0 0, .int .i64 0, .int .i64 0]) := BR2.out.below hb
 have BO3 : Hid (Bx w3 (w.heap.size + 1 + 1) [.slice va1 b.vs.length vc1, .slice pa1 b.ps.length pc1, .slice none 0 0, .int .i64 0, .int .i64 0]) := BO2.out.below hb
 have HB3 : Hid (Below w.heap.size w w3) := HB2.out.trans (hb.mono HB2.out.size)
 replace R1 : Hid (Lies encV 124 w3 w0.heap.size w1.heap.size (.slice va1 b.vs.length vc1) b.vs) := R1.out.below hb
 replace R2 : Hid (LLie w3 v1.heap.size w2.heap.size (.slice pa1 ys1.length pc1) ys1) := R2.out.below hb
 have Y3 : Hid (v2.heap.size ≤ w3.heap.size) := hb.size
 have T2 : Hid (txs ys2 = txs b.qs) := ht
 have L2 : Hid (ys2.length = b.qs.length) := hl
 have R3 : Hid (LLie w3 v2.heap.size w3.heap.size (.slice qa1 ys2.length qc1) ys2) := ho
 clear ho ht hl
 clear hb x2 BA2 BR2 BO2 HB2
 have o4 := BO3.out.c2
 have f4 := BO3.out.fz 2
 go_upto_region 5 with fail
 clear o4 f4
 replace BA3 : Hid (Bx (w3.setCell ⟨w.heap.size + 1 + 1, 2, none⟩ (.slice qa1 b.qs.length qc1)) w.heap.size [.slice b.va b.vs.length b.vc, .slice b.pa b.ps.length b.pc, .slice b.qa b.qs.length b.qc, .int .i64 b.cs, .int .i64 b.nx]) := BA3.out.setO (by show w.heap.size + 1 + 1 ≠ w.heap.size; omega) _
 replace BR3 : Hid (Bx (w3.setCell ⟨w.heap.size + 1 + 1, 2, none⟩ (.slice qa1 b.qs.length qc1)) (w.heap.size + 1) [.slice none 0 0, .slice none 0 0, .slice none 0 0, .int .i64 0, .int .i64 0]) := BR3.out.setO (by show w.heap.size + 1 + 1 ≠ w.heap.size + 1; omega) _
 replace BO3 : Hid (Bx (w3.setCell ⟨w.heap.size + 1 + 1, 2, none⟩ (.slice qa1 b.qs.length qc1)) (w.heap.size + 1 + 1) [.slice va1 b.vs.length vc1, .slice pa1 b.ps.length pc1, .slice qa1 b.qs.length qc1, .int .i64 0, .int .i64 0]) := BO3.out.set 2 _
 replace HB3 : Hid (Below w.heap.size w (w3.setCell ⟨w.heap.size + 1 + 1, 2, none⟩ (.slice qa1 b.qs.length qc1))) := HB3.out.setCell (by show _ ≤ _ + 1 + 1; omega) _
 replace R1 : Hid (Lies encV 124 (w3.setCell ⟨w.heap.size + 1 + 1, 2, none⟩ (.slice qa1 b.qs.length qc1)) w0.heap.size w1.heap.size (.slice va1 b.vs.length vc1) b.vs) := R1.out.set (by have := HSZ.out; have := Y1.out; have := YG1.out; have := Y2.out; have := YG2.out; have := Y3.out; show w.heap.size + 1 + 1 < _; omega) _
 replace R2 : Hid (LLie (w3.setCell ⟨w.heap.size + 1 + 1, 2, none⟩ (.slice qa1 b.qs.length qc1)) v1.heap.size w2.heap.size (.slice pa1 ys1.length pc1) ys1) := R2.out.set (by have := HSZ.out; have := Y1.out; have := YG1.out; have := Y2.out; have := YG2.out; have := Y3.out; show w.heap.size + 1 + 1 < _; omega) _
 replace R3 : Hid (LLie (w3.setCell ⟨w.heap.size + 1 + 1, 2, none⟩ (.slice qa1 b.qs.length qc1)) v2.heap.size w3.heap.size (.slice qa1 ys2.length qc1) ys2) := R3.out.set (by have := HSZ.out; have := Y1.out; have := YG1.out; have := Y2.out; have := YG2.out; have := Y3.out; show w.heap.size + 1 + 1 < _; omega) _
 have YG3 : Hid (w3.heap.size ≤ (w3.setCell ⟨w.heap.size + 1 + 1, 2, none⟩ (.slice qa1 b.qs.length qc1)).heap.size) := by show _ ≤ _; simp [World.setCell]
 generalize (w3.setCell ⟨w.heap.size + 1 + 1, 2, none⟩ (.slice qa1 b.qs.length qc1)) = v3 at *
 have HL : Hid (BLie v3 (w.heap.size + 1 + 1 + 1) v3.heap.size ⟨b.vs, ys1, ys2, b.cs, b.nx, va1, vc1, pa1, pc1, qa1, qc1⟩) :=
  ⟨w1.heap.size, w2.heap.size, by have := HSZ.out; have := Y1.out; omega, by have := YG1.out; have := Y2.out; omega, by have := YG2.out; have := Y3.out; have := YG3.out; omega, R1.out.mono HSZ.out (Nat.le_refl _), R2.out.mono YG1.out (Nat.le_refl _), R3.out.mono YG2.out YG3.out⟩
 have HSM : Hid (BSame b ⟨b.vs, ys1, ys2, b.cs, b.nx, va1, vc1, pa1, pc1, qa1, qc1⟩) := ⟨rfl, T1.out, T2.out, rfl, rfl⟩
 clear R1 R2 R3 T1 T2
 have x3 := BA3.out.c3
 have x4 := BA3.out.c4
 have o0 := BO3.out.c0
 have fo0 := BO3.out.fz 0
 have q0 := BR3.out.c0
 have fq0 := BR3.out.fz 0
 have o1 := BO3.out.c1
 have fo1 := BO3.out.fz 1
 have q1 := BR3.out.c1
 have fq1 := BR3.out.fz 1
 have o2 := BO3.out.c2
 have fo2 := BO3.out.fz 2
 have q2 := BR3.out.c2
 have fq2 := BR3.out.fz 2
 have o3 := BO3.out.c3
 have fo3 := BO3.out.fz 3
 have q3 := BR3.out.c3
 have fq3 := BR3.out.fz 3
 have o4 := BO3.out.c4
 have fo4 := BO3.out.fz 4
 have q4 := BR3.out.c4
 have fq4 := BR3.out.fz 4
 go_wp2
 refine bodyPost_ret (v := .agg #[.slice va1 b.vs.length vc1, .slice pa1 b.ps.length pc1, .slice qa1 b.qs.length qc1, .int .i64 b.cs, .int .i64 b.nx]) (by simp [results, Tryz.results44, go_sem, q0, q1, q2, q3, q4]) rfl ⟨⟨b.vs, ys1, ys2, b.cs, b.nx, va1, vc1, pa1, pc1, qa1, qc1⟩, by show _ = Ending.returned (.agg #[.slice va1 b.vs.length vc1, .slice pa1 ys1.length pc1, .slice qa1 ys2.length qc1, .int .i64 b.cs, .int .i64 b.nx]); rw [L1.out, L2.out], HSM.out, ?_, ?_⟩
 ·exact (((((((HL.out.set (by show _ + 1 + 1 < _; omega) _).set (by show _ + 1 + 1 < _; omega) _).set (by show _ + 1 < _; omega) _).set (by show _ + 1 < _; omega) _).set (by show _ + 1 < _; omega) _).set (by show _ + 1 < _; omega) _).set (by show _ + 1 < _; omega) _).mono (by omega) (by simp [World.setCell])
 ·exact (((((((HB3.out.setCell (by show _ ≤ _ + 1 + 1; omega) _).setCell (by show _ ≤ _ + 1 + 1; omega) _).setCell (by show _ ≤ _ + 1; omega) _).setCell (by show _ ≤ _ + 1; omega) _).setCell (by show _ ≤ _ + 1; omega) _).setCell (by show _ ≤ _ + 1; omega) _).setCell (by show _ ≤ _ + 1; omega) _)

end Go.Proofs.YtjieojfcmigcdaaGreatDoor
