/- What stays: what laws toBase does. -/
import Derived.Test.YtmijppfppigjcaaGreatPd05
import Derived.Deep.RegionHeld3
import Derived.Deep.Cut
import Derived.Deep.CutRange
import Derived.Test.YtmijppfppigjcaaGreatProg
import Derived.WalkKit
import Derived.Test.YtmijppfppigjcaaGreatPd01
import Derived.WalkSpells
import Derived.WalkLawsBesides
import Derived.Deep.QuietTactic
import Derived.BigQuiet
import Derived.Deep.DrawnRows
import Derived.Deep.AppendLies
import Derived.Test.YtmijppfppigjcaaGreatPd02
import Derived.Test.YtmijppfppigjcaaGreatPd03
import Derived.Deep.RegionHeld
import Derived.Sort.OwnSorted
import Derived.Lib.RowBridge
import Derived.Test.YtmijppfppigjcaaGreatPd04
import Derived.Lib.ItoaNum
import Derived.Lib.ItoaLen
import Derived.Laws.EntriesVeiled
import Derived.Lib.AppendZeros
import Derived.Sort.OwnSortedInts
namespace Go.Proofs.YtmijppfppigjcaaGreat
open Go.RowKit
open KM
attribute [local go_sem ↓] Go.wp_at_zero Go.wp_at_succ

structure BLie (w : World) (lo hi : Nat) (c : Bb) : Prop where
 ex : ∃ m1 m2, lo ≤ m1 ∧ m1 ≤ m2 ∧ m2 ≤ hi ∧ Lies encV 150 w lo m1 (.slice c.va c.vs.length c.vc) c.vs ∧ LLie w m1 m2 (.slice c.pa c.ps.length c.pc) c.ps ∧ LLie w m2 hi (.slice c.qa c.qs.length c.qc) c.qs
theorem BLie.rows {w : World} {lo hi : Nat} {c : Bb} (h : BLie w lo hi c) : BRows w c := by
 obtain ⟨m1, m2, _, _, _, h1, h2, h3⟩ := h.ex
 exact ⟨h1.own.grow, h2.rows, h3.rows⟩
theorem BLie.below {w w' : World} {lo hi : Nat} {c : Bb} (h : BLie w lo hi c) (hb : Below w.heap.size w w') : BLie w' lo hi c := by
 obtain ⟨m1, m2, a, b, d, h1, h2, h3⟩ := h.ex
 exact ⟨m1, m2, a, b, d, h1.below hb, h2.below hb, h3.below hb⟩
theorem BLie.set {w : World} {lo hi : Nat} {c : Bb} (h : BLie w lo hi c) {a : Addr} (ha : a.block < lo) (u : Value) : BLie (w.setCell a u) lo hi c := by
 obtain ⟨m1, m2, k1, k2, k3, h1, h2, h3⟩ := h.ex
 exact ⟨m1, m2, k1, k2, k3, h1.set ha u, h2.set (by omega) u, h3.set (by omega) u⟩
theorem BLie.mono {w : World} {lo hi lo' hi' : Nat} {c : Bb} (h : BLie w lo hi c) (k : lo' ≤ lo) (k' : hi ≤ hi') : BLie w lo' hi' c := by
 obtain ⟨m1, m2, k1, k2, k3, h1, h2, h3⟩ := h.ex
 exact ⟨m1, m2, by omega, k2, by omega, h1.mono k (Nat.le_refl _), h2, h3.mono (Nat.le_refl _) k'⟩
theorem BLie.zn {w w' : World} {lo hi l h : Nat} {c : Bb} (k : BLie w lo hi c) (hz : Zn l h w w') (hne : hi ≤ l ∨ h ≤ lo) : BLie w' lo hi c := by
 obtain ⟨m1, m2, k1, k2, k3, h1, h2, h3⟩ := k.ex
 exact ⟨m1, m2, k1, k2, k3, h1.zn hz (by omega), h2.zn hz (by omega), h3.zn hz (by omega)⟩

set_option maxRecDepth 100000 in
set_option maxHeartbeats 4000000 in
theorem toB (b : Bb) (hf : BFit b) (w : World) (hp : BRows w b) :
  Calls Tryz.prog 57 #[.agg #[.slice b.va b.vs.length b.vc, .slice b.pa b.ps.length b.pc, .slice b.qa b.qs.length b.qc, .int .i64 b.cs, .int .i64 b.nx]] w fun e w' => ∃ c : Bb, e = .returned (.agg #[.slice c.va c.vs.length c.vc, .slice c.pa c.ps.length c.pc, .slice c.qa c.qs.length c.qc, .int .i64 c.cs, .int .i64 c.nx]) ∧ BSame b c ∧ BLie w' w.heap.size w'.heap.size c ∧ Below w.heap.size w w' := by
 have HP : Hid (BRows w b) := hp
 have HF : Hid (BFit b) := hf
 clear hp hf
 have BA0 : Hid (Bx (((w.alloc (.cells #[.slice b.va b.vs.length b.vc, .slice b.pa b.ps.length b.pc, .slice b.qa b.qs.length b.qc, .int .i64 b.cs, .int .i64 b.nx] 25)).alloc (.cells #[.slice none 0 0, .slice none 0 0, .slice none 0 0, .int .i64 0, .int .i64 0] 42)).alloc (.cells #[.slice none 0 0, .slice none 0 0, .slice none 0 0, .int .i64 0, .int .i64 0] 42)) w.heap.size [.slice b.va b.vs.length b.vc, .slice b.pa b.ps.length b.pc, .slice b.qa b.qs.length b.qc, .int .i64 b.cs, .int .i64 b.nx]) := ((Bx.new w [.slice b.va b.vs.length b.vc, .slice b.pa b.ps.length b.pc, .slice b.qa b.qs.length b.qc, .int .i64 b.cs, .int .i64 b.nx] 25).alloc _).alloc _
 have BR0 : Hid (Bx (((w.alloc (.cells #[.slice b.va b.vs.length b.vc, .slice b.pa b.ps.length b.pc, .slice b.qa b.qs.length b.qc, .int .i64 b.cs, .int .i64 b.nx] 25)).alloc (.cells #[.slice none 0 0, .slice none 0 0, .slice none 0 0, .int .i64 0, .int .i64 0] 42)).alloc (.cells #[.slice none 0 0, .slice none 0 0, .slice none 0 0, .int .i64 0, .int .i64 0] 42)) (w.heap.size + 1) [.slice none 0 0, .slice none 0 0, .slice none 0 0, .int .i64 0, .int .i64 0]) := by
  have h := (Bx.new (w.alloc (.cells #[.slice b.va b.vs.length b.vc, .slice b.pa b.ps.length b.pc, .slice b.qa b.qs.length b.qc, .int .i64 b.cs, .int .i64 b.nx] 25)) [.slice none 0 0, .slice none 0 0, .slice none 0 0, .int .i64 0, .int .i64 0] 42).alloc (.cells #[.slice none 0 0, .slice none 0 0, .slice none 0 0, .int .i64 0, .int .i64 0] 42)
  rw [show (w.alloc (.cells #[.slice b.va b.vs.length b.vc, .slice b.pa b.ps.length b.pc, .slice b.qa b.qs.length b.qc, .int .i64 b.cs, .int .i64 b.nx] 25)).heap.size = w.heap.size + 1 by simp] at h
  exact h
 have BO0 : Hid (Bx (((w.alloc (.cells #[.slice b.va b.vs.length b.vc, .slice b.pa b.ps.length b.pc, .slice b.qa b.qs.length b.qc, .int .i64 b.cs, .int .i64 b.nx] 25)).alloc (.cells #[.slice none 0 0, .slice none 0 0, .slice none 0 0, .int .i64 0, .int .i64 0] 42)).alloc (.cells #[.slice none 0 0, .slice none 0 0, .slice none 0 0, .int .i64 0, .int .i64 0] 42)) (w.heap.size + 1 + 1) [.slice none 0 0, .slice none 0 0, .slice none 0 0, .int .i64 0, .int .i64 0]) := by
  have h := Bx.new ((w.alloc (.cells #[.slice b.va b.vs.length b.vc, .slice b.pa b.ps.length b.pc, .slice b.qa b.qs.length b.qc, .int .i64 b.cs, .int .i64 b.nx] 25)).alloc (.cells #[.slice none 0 0, .slice none 0 0, .slice none 0 0, .int .i64 0, .int .i64 0] 42)) [.slice none 0 0, .slice none 0 0, .slice none 0 0, .int .i64 0, .int .i64 0] 42
  rw [show ((w.alloc (.cells #[.slice b.va b.vs.length b.vc, .slice b.pa b.ps.length b.pc, .slice b.qa b.qs.length b.qc, .int .i64 b.cs, .int .i64 b.nx] 25)).alloc (.cells #[.slice none 0 0, .slice none 0 0, .slice none 0 0, .int .i64 0, .int .i64 0] 42)).heap.size = w.heap.size + 1 + 1 by simp] at h
  exact h
 have HB0 : Hid (Below w.heap.size w (((w.alloc (.cells #[.slice b.va b.vs.length b.vc, .slice b.pa b.ps.length b.pc, .slice b.qa b.qs.length b.qc, .int .i64 b.cs, .int .i64 b.nx] 25)).alloc (.cells #[.slice none 0 0, .slice none 0 0, .slice none 0 0, .int .i64 0, .int .i64 0] 42)).alloc (.cells #[.slice none 0 0, .slice none 0 0, .slice none 0 0, .int .i64 0, .int .i64 0] 42))) := (((belowRefl w).alloc (Nat.le_refl _) _).alloc (by simp) _).alloc (by simp; omega) _
 have S0 : Hid ((((w.alloc (.cells #[.slice b.va b.vs.length b.vc, .slice b.pa b.ps.length b.pc, .slice b.qa b.qs.length b.qc, .int .i64 b.cs, .int .i64 b.nx] 25)).alloc (.cells #[.slice none 0 0, .slice none 0 0, .slice none 0 0, .int .i64 0, .int .i64 0] 42)).alloc (.cells #[.slice none 0 0, .slice none 0 0, .slice none 0 0, .int .i64 0, .int .i64 0] 42)).heap.size = w.heap.size + 1 + 1 + 1) := by show _ = _; simp
 have HSZ : Hid (w.heap.size + 1 + 1 + 1 ≤ (((w.alloc (.cells #[.slice b.va b.vs.length b.vc, .slice b.pa b.ps.length b.pc, .slice b.qa b.qs.length b.qc, .int .i64 b.cs, .int .i64 b.nx] 25)).alloc (.cells #[.slice none 0 0, .slice none 0 0, .slice none 0 0, .int .i64 0, .int .i64 0] 42)).alloc (.cells #[.slice none 0 0, .slice none 0 0, .slice none 0 0, .int .i64 0, .int .i64 0] 42)).heap.size) := by show _ ≤ _; rw [S0.out]; exact Nat.le_refl _
 have CV : Hid (∀ W : World, Below w.heap.size w W → Calls Tryz.prog 84 #[.slice b.va b.vs.length b.vc] W fun e w' => ∃ a1 c1, e = .returned (.slice a1 b.vs.length c1) ∧ GOwn encV 150 w' W.heap.size (.slice a1 b.vs.length c1) b.vs ∧ Below W.heap.size W w') := fun W h => toSV b.vs b.va b.vc (Nat.le_trans HF.out.vl (by omega)) W (HP.out.v.below h)
 have CP : Hid (∀ W : World, Below w.heap.size w W → Calls Tryz.prog 15 #[.slice b.pa b.ps.length b.pc] W fun e w' => ∃ (ys : List Ta) (a1 : Option Addr) (c1 : Nat), e = .returned (.slice a1 b.ps.length c1) ∧ txs ys = txs b.ps ∧ ys.length = b.ps.length ∧ LLie w' W.heap.size w'.heap.size (.slice a1 ys.length c1) ys ∧ Below W.heap.size W w') := fun W h => toL2 b.ps b.pa b.pc (Nat.le_trans HF.out.pl (by omega)) HF.out.p W (HP.out.p.below h)
 have CQ : Hid (∀ W : World, Below w.heap.size w W → Calls Tryz.prog 15 #[.slice b.qa b.qs.length b.qc] W fun e w' => ∃ (ys : List Ta) (a1 : Option Addr) (c1 : Nat), e = .returned (.slice a1 b.qs.length c1) ∧ txs ys = txs b.qs ∧ ys.length = b.qs.length ∧ LLie w' W.heap.size w'.heap.size (.slice a1 ys.length c1) ys ∧ Below W.heap.size W w') := fun W h => toL2 b.qs b.qa b.qc (Nat.le_trans HF.out.ql (by omega)) HF.out.q W (HP.out.q.below h)
 clear HP HF S0
 go_enter Tryz.func57, Tryz.ntmps57
 go_upto_region 2 with fail
 generalize (((w.alloc (.cells #[.slice b.va b.vs.length b.vc, .slice b.pa b.ps.length b.pc, .slice b.qa b.qs.length b.qc, .int .i64 b.cs, .int .i64 b.nx] 25)).alloc (.cells #[.slice none 0 0, .slice none 0 0, .slice none 0 0, .int .i64 0, .int .i64 0] 42)).alloc (.cells #[.slice none 0 0, .slice none 0 0, .slice none 0 0, .int .i64 0, .int .i64 0] 42)) = w0 at *
 have x0 := BA0.out.c0
 go_wp2_with fail
 refine (CV.out _ HB0.out).mono ?_
 rintro e w1 ⟨va1, vc1, rfl, ho, hb⟩
 have BA1 : Hid (Bx w1 w.heap.size [.slice b.va b.vs.length b.vc, .slice b.pa b.ps.length b.pc, .slice b.qa b.qs.length b.qc, .int .i64 b.cs, .int .i64 b.nx]) := BA0.out.below hb
 have BR1 : Hid (Bx w1 (w.heap.size + 1) [.slice none 0 0, .slice none 0 0, .slice none 0 0, .int .i64 0, .int .i64 0]) := BR0.out.below hb
 have BO1 : Hid (Bx w1 (w.heap.size + 1 + 1) [.slice none 0 0, .slice none 0 0, .slice none 0 0, .int .i64 0, .int .i64 0]) := BO0.out.below hb
 have HB1 : Hid (Below w.heap.size w w1) := HB0.out.trans (hb.mono HB0.out.size)
 have Y1 : Hid (w0.heap.size ≤ w1.heap.size) := hb.size
 have R1 : Hid (Lies encV 150 w1 w0.heap.size w1.heap.size (.slice va1 b.vs.length vc1) b.vs) := Lies.of ho
 clear ho
 clear hb x0 BA0 BR0 BO0 HB0
 have o4 := BO1.out.c0
 have f4 := BO1.out.fz 0
 go_upto_region 3 with fail
 clear o4 f4
 replace BA1 : Hid (Bx (w1.setCell ⟨w.heap.size + 1 + 1, 0, none⟩ (.slice va1 b.vs.length vc1)) w.heap.size [.slice b.va b.vs.length b.vc, .slice b.pa b.ps.length b.pc, .slice b.qa b.qs.length b.qc, .int .i64 b.cs, .int .i64 b.nx]) := BA1.out.setO (by show w.heap.size + 1 + 1 ≠ w.heap.size; omega) _
 replace BR1 : Hid (Bx (w1.setCell ⟨w.heap.size + 1 + 1, 0, none⟩ (.slice va1 b.vs.length vc1)) (w.heap.size + 1) [.slice none 0 0, .slice none 0 0, .slice none 0 0, .int .i64 0, .int .i64 0]) := BR1.out.setO (by show w.heap.size + 1 + 1 ≠ w.heap.size + 1; omega) _
 replace BO1 : Hid (Bx (w1.setCell ⟨w.heap.size + 1 + 1, 0, none⟩ (.slice va1 b.vs.length vc1)) (w.heap.size + 1 + 1) [.slice va1 b.vs.length vc1, .slice none 0 0, .slice none 0 0, .int .i64 0, .int .i64 0]) := BO1.out.set 0 _
 replace HB1 : Hid (Below w.heap.size w (w1.setCell ⟨w.heap.size + 1 + 1, 0, none⟩ (.slice va1 b.vs.length vc1))) := HB1.out.setCell (by show _ ≤ _ + 1 + 1; omega) _
 replace R1 : Hid (Lies encV 150 (w1.setCell ⟨w.heap.size + 1 + 1, 0, none⟩ (.slice va1 b.vs.length vc1)) w0.heap.size w1.heap.size (.slice va1 b.vs.length vc1) b.vs) := R1.out.set (by have := HSZ.out; have := Y1.out; show w.heap.size + 1 + 1 < _; omega) _
 have YG1 : Hid (w1.heap.size ≤ (w1.setCell ⟨w.heap.size + 1 + 1, 0, none⟩ (.slice va1 b.vs.length vc1)).heap.size) := by show _ ≤ _; simp [World.setCell]
 generalize (w1.setCell ⟨w.heap.size + 1 + 1, 0, none⟩ (.slice va1 b.vs.length vc1)) = v1 at *
 have x1 := BA1.out.c1
 go_wp2_with fail
 refine (CP.out _ HB1.out).mono ?_
 rintro e w2 ⟨ys1, pa1, pc1, rfl, ht, hl, ho, hb⟩
 have BA2 : Hid (Bx w2 w.heap.size [.slice b.va b.vs.length b.vc, .slice b.pa b.ps.length b.pc, .slice b.qa b.qs.length b.qc, .int .i64 b.cs, .int .i64 b.nx]) := BA1.out.below hb
 have BR2 : Hid (Bx w2 (w.heap.size + 1) [.slice none 0 0, .slice none 0 0, .slice none 0 0, .int .i64 0, .int .i64 0]) := BR1.out.below hb
 have BO2 : Hid (Bx w2 (w.heap.size + 1 + 1) [.slice va1 b.vs.length vc1, .slice none 0 0, .slice none 0 0, .int .i64 0, .int .i64 0]) := BO1.out.below hb
 have HB2 : Hid (Below w.heap.size w w2) := HB1.out.trans (hb.mono HB1.out.size)
 replace R1 : Hid (Lies encV 150 w2 w0.heap.size w1.heap.size (.slice va1 b.vs.length vc1) b.vs) := R1.out.below hb
 have Y2 : Hid (v1.heap.size ≤ w2.heap.size) := hb.size
 have T1 : Hid (txs ys1 = txs b.ps) := ht
 have L1 : Hid (ys1.length = b.ps.length) := hl
 have R2 : Hid (LLie w2 v1.heap.size w2.heap.size (.slice pa1 ys1.length pc1) ys1) := ho
 clear ho ht hl
 clear hb x1 BA1 BR1 BO1 HB1
 have o4 := BO2.out.c1
 have f4 := BO2.out.fz 1
 go_upto_region 4 with fail
 clear o4 f4
 replace BA2 : Hid (Bx (w2.setCell ⟨w.heap.size + 1 + 1, 1, none⟩ (.slice pa1 b.ps.length pc1)) w.heap.size [.slice b.va b.vs.length b.vc, .slice b.pa b.ps.length b.pc, .slice b.qa b.qs.length b.qc, .int .i64 b.cs, .int .i64 b.nx]) := BA2.out.setO (by show w.heap.size + 1 + 1 ≠ w.heap.size; omega) _
 replace BR2 : Hid (Bx (w2.setCell ⟨w.heap.size + 1 + 1, 1, none⟩ (.slice pa1 b.ps.length pc1)) (w.heap.size + 1) [.slice none 0 0, .slice none 0 0, .slice none 0 0, .int .i64 0, .int .i64 0]) := BR2.out.setO (by show w.heap.size + 1 + 1 ≠ w.heap.size + 1; omega) _
 replace BO2 : Hid (Bx (w2.setCell ⟨w.heap.size + 1 + 1, 1, none⟩ (.slice pa1 b.ps.length pc1)) (w.heap.size + 1 + 1) [.slice va1 b.vs.length vc1, .slice pa1 b.ps.length pc1, .slice none 0 0, .int .i64 0, .int .i64 0]) := BO2.out.set 1 _
 replace HB2 : Hid (Below w.heap.size w (w2.setCell ⟨w.heap.size + 1 + 1, 1, none⟩ (.slice pa1 b.ps.length pc1))) := HB2.out.setCell (by show _ ≤ _ + 1 + 1; omega) _
 replace R1 : Hid (Lies encV 150 (w2.setCell ⟨w.heap.size + 1 + 1, 1, none⟩ (.slice pa1 b.ps.length pc1)) w0.heap.size w1.heap.size (.slice va1 b.vs.length vc1) b.vs) := R1.out.set (by have := HSZ.out; have := Y1.out; have := YG1.out; have := Y2.out; show w.heap.size + 1 + 1 < _; omega) _
 replace R2 : Hid (LLie (w2.setCell ⟨w.heap.size + 1 + 1, 1, none⟩ (.slice pa1 b.ps.length pc1)) v1.heap.size w2.heap.size (.slice pa1 ys1.length pc1) ys1) := R2.out.set (by have := HSZ.out; have := Y1.out; have := YG1.out; have := Y2.out; show w.heap.size + 1 + 1 < _; omega) _
 have YG2 : Hid (w2.heap.size ≤ (w2.setCell ⟨w.heap.size + 1 + 1, 1, none⟩ (.slice pa1 b.ps.length pc1)).heap.size) := by show _ ≤ _; simp [World.setCell]
 generalize (w2.setCell ⟨w.heap.size + 1 + 1, 1, none⟩ (.slice pa1 b.ps.length pc1)) = v2 at *
 have x2 := BA2.out.c2
 go_wp2_with fail
 refine (CQ.out _ HB2.out).mono ?_
 rintro e w3 ⟨ys2, qa1, qc1, rfl, ht, hl, ho, hb⟩
 have BA3 : Hid (Bx w3 w.heap.size [.slice b.va b.vs.length b.vc, .slice b.pa b.ps.length b.pc, .slice b.qa b.qs.length b.qc, .int .i64 b.cs, .int .i64 b.nx]) := BA2.out.below hb
 have BR3 : Hid (Bx w3 (w.heap.size + 1) [.slice none 0 0, .slice none 0 0, .slice none 0 0, .int .i64 0, .int .i64 0]) := BR2.out.below hb
 have BO3 : Hid (Bx w3 (w.heap.size + 1 + 1) [.slice va1 b.vs.length vc1, .slice pa1 b.ps.length pc1, .slice none 0 0, .int .i64 0, .int .i64 0]) := BO2.out.below hb
 have HB3 : Hid (Below w.heap.size w w3) := HB2.out.trans (hb.mono HB2.out.size)
 replace R1 : Hid (Lies encV 150 w3 w0.heap.size w1.heap.size (.slice va1 b.vs.length vc1) b.vs) := R1.out.below hb
 replace R2 : Hid (LLie w3 v1.heap.size w2.heap.size (.slice pa1 ys1.length pc1) ys1) := R2.out.below hb
 have Y3 : Hid (v2.heap.size ≤ w3.heap.size) := hb.size
 have T2 : Hid (txs ys2 = txs b.qs) := ht
 have L2 : Hid (ys2.length = b.qs.length) := hl
 have R3 : Hid (LLie w3 v2.heap.size w3.heap.size (.slice qa1 ys2.length qc1) ys2) := ho
 clear ho ht hl
 clear hb x2 BA2 BR2 BO2 HB2
 have o4 := BO3.out.c2
 have f4 := BO3.out.fz 2
 go_upto_region 5 with fail
 clear o4 f4
 replace BA3 : Hid (Bx (w3.setCell ⟨w.heap.size + 1 + 1, 2, none⟩ (.slice qa1 b.qs.length qc1)) w.heap.size [.slice b.va b.vs.length b.vc, .slice b.pa b.ps.length b.pc, .slice b.qa b.qs.length b.qc, .int .i64 b.cs, .int .i64 b.nx]) := BA3.out.setO (by show w.heap.size + 1 + 1 ≠ w.heap.size; omega) _
 replace BR3 : Hid (Bx (w3.setCell ⟨w.heap.size + 1 + 1, 2, none⟩ (.slice qa1 b.qs.length qc1)) (w.heap.size + 1) [.slice none 0 0, .slice none 0 0, .slice none 0 0, .int .i64 0, .int .i64 0]) := BR3.out.setO (by show w.heap.size + 1 + 1 ≠ w.heap.size + 1; omega) _
 replace BO3 : Hid (Bx (w3.setCell ⟨w.heap.size + 1 + 1, 2, none⟩ (.slice qa1 b.qs.length qc1)) (w.heap.size + 1 + 1) [.slice va1 b.vs.length vc1, .slice pa1 b.ps.length pc1, .slice qa1 b.qs.length qc1, .int .i64 0, .int .i64 0]) := BO3.out.set 2 _
 replace HB3 : Hid (Below w.heap.size w (w3.setCell ⟨w.heap.size + 1 + 1, 2, none⟩ (.slice qa1 b.qs.length qc1))) := HB3.out.setCell (by show _ ≤ _ + 1 + 1; omega) _
 replace R1 : Hid (Lies encV 150 (w3.setCell ⟨w.heap.size + 1 + 1, 2, none⟩ (.slice qa1 b.qs.length qc1)) w0.heap.size w1.heap.size (.slice va1 b.vs.length vc1) b.vs) := R1.out.set (by have := HSZ.out; have := Y1.out; have := YG1.out; have := Y2.out; have := YG2.out; have := Y3.out; show w.heap.size + 1 + 1 < _; omega) _
 replace R2 : Hid (LLie (w3.setCell ⟨w.heap.size + 1 + 1, 2, none⟩ (.slice qa1 b.qs.length qc1)) v1.heap.size w2.heap.size (.slice pa1 ys1.length pc1) ys1) := R2.out.set (by have := HSZ.out; have := Y1.out; have := YG1.out; have := Y2.out; have := YG2.out; have := Y3.out; show w.heap.size + 1 + 1 < _; omega) _
 replace R3 : Hid (LLie (w3.setCell ⟨w.heap.size + 1 + 1, 2, none⟩ (.slice qa1 b.qs.length qc1)) v2.heap.size w3.heap.size (.slice qa1 ys2.length qc1) ys2) := R3.out.set (by have := HSZ.out; have := Y1.out; have := YG1.out; have := Y2.out; have := YG2.out; have := Y3.out; show w.heap.size + 1 + 1 < _; omega) _
 have YG3 : Hid (w3.heap.size ≤ (w3.setCell ⟨w.heap.size + 1 + 1, 2, none⟩ (.slice qa1 b.qs.length qc1)).heap.size) := by show _ ≤ _; simp [World.setCell]
 generalize (w3.setCell ⟨w.heap.size + 1 + 1, 2, none⟩ (.slice qa1 b.qs.length qc1)) = v3 at *
 have HL : Hid (BLie v3 (w.heap.size + 1 + 1 + 1) v3.heap.size ⟨b.vs, ys1, ys2, b.cs, b.nx, va1, vc1, pa1, pc1, qa1, qc1⟩) :=
  ⟨w1.heap.size, w2.heap.size, by have := HSZ.out; have := Y1.out; omega, by have := YG1.out; have := Y2.out; omega, by have := YG2.out; have := Y3.out; have := YG3.out; omega, R1.out.mono HSZ.out (Nat.le_refl _), R2.out.mono YG1.out (Nat.le_refl _), R3.out.mono YG2.out YG3.out⟩
 have HSM : Hid (BSame b ⟨b.vs, ys1, ys2, b.cs, b.nx, va1, vc1, pa1, pc1, qa1, qc1⟩) := ⟨rfl, T1.out, T2.out, rfl, rfl⟩
 clear R1 R2 R3 T1 T2
 have x3 := BA3.out.c3
 have x4 := BA3.out.c4
 have o0 := BO3.out.c0
 have fo0 := BO3.out.fz 0
 have q0 := BR3.out.c0
 have fq0 := BR3.out.fz 0
 have o1 := BO3.out.c1
 have fo1 := BO3.out.fz 1
 have q1 := BR3.out.c1
 have fq1 := BR3.out.fz 1
 have o2 := BO3.out.c2
 have fo2 := BO3.out.fz 2
 have q2 := BR3.out.c2
 have fq2 := BR3.out.fz 2
 have o3 := BO3.out.c3
 have fo3 := BO3.out.fz 3
 have q3 := BR3.out.c3
 have fq3 := BR3.out.fz 3
 have o4 := BO3.out.c4
 have fo4 := BO3.out.fz 4
 have q4 := BR3.out.c4
 have fq4 := BR3.out.fz 4
 go_wp2
 refine bodyPost_ret (v := .agg #[.slice va1 b.vs.length vc1, .slice pa1 b.ps.length pc1, .slice qa1 b.qs.length qc1, .int .i64 b.cs, .int .i64 b.nx]) (by simp [results, Tryz.results57, go_sem, q0, q1, q2, q3, q4]) rfl ⟨⟨b.vs, ys1, ys2, b.cs, b.nx, va1, vc1, pa1, pc1, qa1, qc1⟩, by show _ = Ending.returned (.agg #[.slice va1 b.vs.length vc1, .slice pa1 ys1.length pc1, .slice qa1 ys2.length qc1, .int .i64 b.cs, .int .i64 b.nx]); rw [L1.out, L2.out], HSM.out, ?_, ?_⟩
 ·exact (((((((HL.out.set (by show _ + 1 + 1 < _; omega) _).set (by show _ + 1 + 1 < _; omega) _).set (by show _ + 1 < _; omega) _).set (by show _ + 1 < _; omega) _).set (by show _ + 1 < _; omega) _).set (by show _ + 1 < _; omega) _).set (by show _ + 1 < _; omega) _).mono (by omega) (by simp [World.setCell])
 ·exact (((((((HB3.out.setCell (by show _ ≤ _ + 1 + 1; omega) _).setCell (by show _ ≤ _ + 1 + 1; omega) _).setCell (by show _ ≤ _ + 1; omega) _).setCell (by show _ ≤ _ + 1; omega) _).setCell (by show _ ≤ _ + 1; omega) _).setCell (by show _ ≤ _ + 1; omega) _).setCell (by show _ ≤ _ + 1; omega) _)

end Go.Proofs.YtmijppfppigjcaaGreat

namespace Go.Proofs.YtmijppfppigjcaaGreat
open Go.RowKit
open KM
attribute [local go_sem ↓] Go.wp_at_zero Go.wp_at_succ

structure Rc where
 k : Int
 t : Ta
 nm : ByteArray
 yes : Bool
 b : Bb
structure RcRows (w : World) (r : Rc) : Prop where
 t : TRow w r.t.t r.t.ra r.t.wa
 b : BRows w r.b
theorem RcRows.below {w w' : World} {r : Rc} (h : RcRows w r) (hb : Below w.heap.size w w') : RcRows w' r := ⟨h.t.below hb, h.b.below hb⟩
structure RcArg (w : World) (r : Rc) : Prop where
 t : TArg w r.t.t r.t.ra r.t.wa
 nm : r.nm.size ≤ maxLen
 b : BArg w r.b
theorem RcArg.below {w w' : World} {r : Rc} (h : RcArg w r) (hb : Below w.heap.size w w') : RcArg w' r := ⟨h.t.below hb, h.nm, h.b.below hb⟩
theorem RcArg.rows {w : World} {r : Rc} (h : RcArg w r) : RcRows w r := ⟨h.t.row, h.b.rows⟩
structure RcFit (r : Rc) : Prop where
 t : TFit r.t.t
 nm : r.nm.size ≤ 1048576
 b : BFit r.b
structure RcSame (r c : Rc) : Prop where
 k : c.k = r.k
 t : c.t.t = r.t.t
 nm : c.nm = r.nm
 yes : c.yes = r.yes
 b : BSame r.b c.b
theorem RcSame.fit {r c : Rc} (h : RcSame r c) (hf : RcFit r) : RcFit c := ⟨by rw [h.t]; exact hf.t, by rw [h.nm]; exact hf.nm, h.b.fit hf.b⟩
theorem RcSame.trans {r c d : Rc} (h : RcSame r c) (k : RcSame c d) : RcSame r d := ⟨k.k.trans h.k, k.t.trans h.t, k.nm.trans h.nm, k.yes.trans h.yes, h.b.trans k.b⟩
theorem RcSame.symm {r c : Rc} (h : RcSame r c) : RcSame c r := ⟨h.k.symm, h.t.symm, h.nm.symm, h.yes.symm, h.b.symm⟩
structure RcLie (w : World) (lo hi : Nat) (c : Rc) : Prop where
 ex : ∃ m, lo ≤ m ∧ m ≤ hi ∧ TLie w lo m c.t.t c.t.ra c.t.rc c.t.wa c.t.wc ∧ BLie w m hi c.b
theorem RcLie.rows {w : World} {lo hi : Nat} {c : Rc} (h : RcLie w lo hi c) : RcRows w c := by
 obtain ⟨m, _, _, h1, h2⟩ := h.ex
 exact ⟨h1.row, h2.rows⟩
theorem RcLie.below {w w' : World} {lo hi : Nat} {c : Rc} (h : RcLie w lo hi c) (hb : Below w.heap.size w w') : RcLie w' lo hi c := by
 obtain ⟨m, a, b, h1, h2⟩ := h.ex
 exact ⟨m, a, b, h1.below hb, h2.below hb⟩
theorem RcLie.set {w : World} {lo hi : Nat} {c : Rc} (h : RcLie w lo hi c) {a : Addr} (ha : a.block < lo) (u : Value) : RcLie (w.setCell a u) lo hi c := by
 obtain ⟨m, k1, k2, h1, h2⟩ := h.ex
 exact ⟨m, k1, k2, h1.set ha u, h2.set (by omega) u⟩
theorem RcLie.mono {w : World} {lo hi lo' hi' : Nat} {c : Rc} (h : RcLie w lo hi c) (k : lo' ≤ lo) (k' : hi ≤ hi') : RcLie w lo' hi' c := by
 obtain ⟨m, k1, k2, h1, h2⟩ := h.ex
 exact ⟨m, by omega, by omega, h1.mono k (Nat.le_refl _), h2.mono (Nat.le_refl _) k'⟩
theorem RcLie.zn {w w' : World} {lo hi l h : Nat} {c : Rc} (k : RcLie w lo hi c) (hz : Zn l h w w') (hne : hi ≤ l ∨ h ≤ lo) : RcLie w' lo hi c := by
 obtain ⟨m, k1, k2, h1, h2⟩ := k.ex
 exact ⟨m, k1, k2, h1.zn hz (by omega), h2.zn hz (by omega)⟩
section
variable {w : World} {b : Nat}
end

end Go.Proofs.YtmijppfppigjcaaGreat

namespace Go.Proofs.YtmijppfppigjcaaGreat
open Go.RowKit
open KM
attribute [local go_sem ↓] Go.wp_at_zero Go.wp_at_succ

theorem wpAppK {ops : Array Oper} {rest : List Oper} {o : Oper} {a : Act} {Q : Exit → Act → World → Prop} {α : Type} {E : Enc α} (T e bytes : Nat) (z : Value) (hT : Tryz.prog.underlying T = some (.slice e))
  (hinfo : (Tryz.prog.info? e).map (fun i => (i.zero, i.size, i.bytes)) = some (some z, E.size, bytes)) (hzs : z.cells.size = E.size) (hby : bytes ≤ 128)
  (hgd : o.guard = none) (s x : Operand) (ho : o.op = .call { callee := .builtin .append, args := #[s, x], argTypes := #[T, T] })
  {W : World} {base g : Nat} {v : Value} {xs : List α} (y : α) (h1 : ∀ u ∈ E.enc y, u.oneCell' = true)
  (hs : a.eval s = v) (hown : GOwn E e W base v xs) (hx : a.eval x = .slice (some ⟨g, 0, none⟩) 1 1) (hblk : W.heap[g]? = some (.cells (E.enc y).toArray e (0, 0)))
  (hlen : xs.length ≤ 100000000) (hB : base ≤ W.heap.size)
  (h : ∀ g' cap w', GOwn E e w' base (.slice (some ⟨g', 0, none⟩) (xs.length + 1) cap) (xs ++ [y]) → W.grownBy w' v.ownBlock → (v.ownBlock = some g' ∨ g' = W.heap.size) → g' < w'.heap.size → wpList Tryz.prog ops Q rest (a.put o.dst (.slice (some ⟨g', 0, none⟩) (xs.length + 1) cap)) w') :
  wpList Tryz.prog ops Q (o :: rest) a W := by
 obtain ⟨i0, hi, hz0, hz1, hz2⟩ := info_parts hinfo
 refine wpList_append_lies _ hgd s x T ho base e i0 z E.size bytes hT hi hz0 hz1 hz2 hzs E.pos v xs.length (E.cells xs) hs hown ⟨g, 0, none⟩ 1 1 (E.enc y) hx (by rw [E.len, Nat.one_mul]) ?_ h1 (by omega) (by unfold maxLen; omega) ?_ hB _ rfl ?_
 ·intro j u hj
  rw [Addr.add_lit, Nat.zero_add, World.cell?, hblk]
  simpa using hj
 ·calc (xs.length + 1) * bytes ≤ 100000001 * 128 := Nat.mul_le_mul (by omega) hby
   _ ≤ _ := by omega
 ·intro g' cap w' k1 k2 k3 k4
  refine h g' cap w' ?_ k2 k3 k4
  have e : E.cells (xs ++ [y]) = E.cells xs ++ E.enc y := by rw [E.cells_app]; simp [Enc.cells]
  unfold GOwn
  rw [e, List.length_append]
  exact k1
theorem stepAppK {ops : Array Oper} {K : Act → World → Prop} {X : Prop} {o : Oper} {a : Act} {Q : Exit → Act → World → Prop} {α : Type} {E : Enc α} (T e bytes : Nat) (z : Value) (hT : Tryz.prog.underlying T = some (.slice e))
  (hinfo : (Tryz.prog.info? e).map (fun i => (i.zero, i.size, i.bytes)) = some (some z, E.size, bytes)) (hzs : z.cells.size = E.size) (hby : bytes ≤ 128)
  (hgd : o.guard = none) (s x : Operand) (ho : o.op = .call { callee := .builtin .append, args := #[s, x], argTypes := #[T, T] })
  {W : World} {base g : Nat} {v : Value} {xs : List α} (y : α) (h1 : ∀ u ∈ E.enc y, u.oneCell' = true)
  (hs : a.eval s = v) (hown : GOwn E e W base v xs) (hx : a.eval x = .slice (some ⟨g, 0, none⟩) 1 1) (hblk : W.heap[g]? = some (.cells (E.enc y).toArray e (0, 0)))
  (hlen : xs.length ≤ 100000000) (hB : base ≤ W.heap.size)
  (h : ∀ g' cap w', GOwn E e w' base (.slice (some ⟨g', 0, none⟩) (xs.length + 1) cap) (xs ++ [y]) → W.grownBy w' v.ownBlock → (v.ownBlock = some g' ∨ g' = W.heap.size) → g' < w'.heap.size → K (a.put o.dst (.slice (some ⟨g', 0, none⟩) (xs.length + 1) cap)) w') :
  if Region.wanted o (yielded ops a.tmps) = true then Oper.wp Tryz.prog o a W K Q else X := by
 obtain ⟨i0, hi, hz0, hz1, hz2⟩ := info_parts hinfo
 refine step_append_lies _ hgd s x T ho base e i0 z E.size bytes hT hi hz0 hz1 hz2 hzs E.pos v xs.length (E.cells xs) hs hown ⟨g, 0, none⟩ 1 1 (E.enc y) hx (by rw [E.len, Nat.one_mul]) ?_ h1 (by omega) (by unfold maxLen; omega) ?_ hB _ rfl ?_
 ·intro j u hj
  rw [Addr.add_lit, Nat.zero_add, World.cell?, hblk]
  simpa using hj
 ·calc (xs.length + 1) * bytes ≤ 100000001 * 128 := Nat.mul_le_mul (by omega) hby
   _ ≤ _ := by omega
 ·intro g' cap w' k1 k2 k3 k4
  refine h g' cap w' ?_ k2 k3 k4
  have e : E.cells (xs ++ [y]) = E.cells xs ++ E.enc y := by rw [E.cells_app]; simp [Enc.cells]
  unfold GOwn
  rw [e, List.length_append]
  exact k1
theorem Lies.marked2 {α : Type} {E : Enc α} {e : TypeId} {w w' : World} {lo hi : Nat} {v : Value} {row : Option Nat} {xs : List α} (h : Lies E e w lo hi v xs) (hg : w.grownBy w' row) (hne : ∀ g, row = some g → g < lo ∨ hi ≤ g) : Lies E e w' lo hi v xs := by
 refine ⟨?_, h.up⟩
 obtain ⟨h1, h2⟩ := h.own
 refine ⟨h1, ?_⟩
 rcases h2 with h2 | ⟨g, cap, cur, hv, hg', hh, r⟩
 ·exact Or.inl h2
 ·refine Or.inr ⟨g, cap, cur, hv, hg', ?_, r⟩
  have hlt : g < w.heap.size := (Array.getElem?_eq_some_iff.1 hh).1
  have hup := h.up g (by rw [hv]; rfl)
  rw [hg.block g hlt (fun e => by have := hne g e.symm; omega)]
  exact hh

end Go.Proofs.YtmijppfppigjcaaGreat

namespace Go.Proofs.YtmijppfppigjcaaGreat
open Go.RowKit
open KM
attribute [local go_sem ↓] Go.wp_at_zero Go.wp_at_succ

theorem bx_low {w w' : World} {b base : Nat} {cs : List Value} (h : Bx w b cs) (hb : Below base w w') (hl : b < base) : Bx w' b cs :=
 ⟨Nat.lt_of_lt_of_le h.lt hb.size, fun j hj => (hb.cell (p := ⟨b, j, none⟩) hl).trans (h.at' j hj), fun j => (hb.frozen (p := ⟨b, j, none⟩) hl).trans (h.fz j)⟩
set_option maxRecDepth 100000 in
set_option maxHeartbeats 2000000 in
theorem by35 (a : Option Addr) (c n : Nat) (w : World) : Calls Tryz.prog 69 #[.slice a n c] w fun e w' => e = .returned (.agg #[.slice a n c, .func (.func 104) #[] #[]]) ∧ Below w.heap.size w w' := by
 go_enter Tryz.func69, Tryz.ntmps69
 go_wp2
 refine bodyPost_ret (v := .agg #[.slice a n c, .func (.func 104) #[] #[]]) (by simp [results, Tryz.results69, go_sem]) rfl ⟨rfl, ?_⟩
 exact (belowRefl w).alloc (Nat.le_refl _) _

set_option maxRecDepth 100000 in
set_option maxHeartbeats 2000000 in
theorem by41 (a : Option Addr) (c n : Nat) (w : World) : Calls Tryz.prog 102 #[.slice a n c] w fun e w' => e = .returned (.agg #[.slice a n c, .func (.func 141) #[] #[]]) ∧ Below w.heap.size w w' := by
 go_enter Tryz.func102, Tryz.ntmps102
 go_wp2
 refine bodyPost_ret (v := .agg #[.slice a n c, .func (.func 141) #[] #[]]) (by simp [results, Tryz.results102, go_sem]) rfl ⟨rfl, ?_⟩
 exact (belowRefl w).alloc (Nat.le_refl _) _

set_option maxRecDepth 100000 in
set_option maxHeartbeats 2000000 in
theorem by42 (a : Option Addr) (c n : Nat) (w : World) : Calls Tryz.prog 98 #[.slice a n c] w fun e w' => e = .returned (.agg #[.slice a n c, .func (.func 137) #[] #[]]) ∧ Below w.heap.size w w' := by
 go_enter Tryz.func98, Tryz.ntmps98
 go_wp2
 refine bodyPost_ret (v := .agg #[.slice a n c, .func (.func 137) #[] #[]]) (by simp [results, Tryz.results98, go_sem]) rfl ⟨rfl, ?_⟩
 exact (belowRefl w).alloc (Nat.le_refl _) _

set_option maxRecDepth 100000 in
set_option maxHeartbeats 2000000 in
theorem key58 (x : Ta) (w : World) : Calls Tryz.prog 104 #[.agg #[.int .i64 x.t.id, .int .i64 x.t.st, .int .i64 x.t.snap, .int .i64 x.t.cs, .slice x.ra x.t.rs.length x.rc, .slice x.wa x.t.ws.length x.wc, .bool x.t.out, .string x.t.nm]] w fun e w' => e = .returned (.int .i64 x.t.cs) ∧ Below w.heap.size w w' := by
 have HB : Hid (Below w.heap.size w (w.alloc (.cells #[.int .i64 x.t.id, .int .i64 x.t.st, .int .i64 x.t.snap, .int .i64 x.t.cs, .slice x.ra x.t.rs.length x.rc, .slice x.wa x.t.ws.length x.wc, .bool x.t.out, .string x.t.nm] 62))) := (belowRefl w).alloc (Nat.le_refl _) _
 go_enter Tryz.func104, Tryz.ntmps104
 go_wp2
 go_ret
 exact ⟨rfl, HB.out⟩

set_option maxRecDepth 100000 in
set_option maxHeartbeats 2000000 in
theorem key66 (x : Ta) (w : World) : Calls Tryz.prog 141 #[.agg #[.int .i64 x.t.id, .int .i64 x.t.st, .int .i64 x.t.snap, .int .i64 x.t.cs, .slice x.ra x.t.rs.length x.rc, .slice x.wa x.t.ws.length x.wc, .bool x.t.out, .string x.t.nm]] w fun e w' => e = .returned (.int .i64 x.t.snap) ∧ Below w.heap.size w w' := by
 have HB : Hid (Below w.heap.size w (w.alloc (.cells #[.int .i64 x.t.id, .int .i64 x.t.st, .int .i64 x.t.snap, .int .i64 x.t.cs, .slice x.ra x.t.rs.length x.rc, .slice x.wa x.t.ws.length x.wc, .bool x.t.out, .string x.t.nm] 62))) := (belowRefl w).alloc (Nat.le_refl _) _
 go_enter Tryz.func141, Tryz.ntmps141
 go_wp2
 go_ret
 exact ⟨rfl, HB.out⟩

set_option maxRecDepth 100000 in
set_option maxHeartbeats 2000000 in
theorem key67 (x : Ta) (w : World) : Calls Tryz.prog 137 #[.agg #[.int .i64 x.t.id, .int .i64 x.t.st, .int .i64 x.t.snap, .int .i64 x.t.cs, .slice x.ra x.t.rs.length x.rc, .slice x.wa x.t.ws.length x.wc, .bool x.t.out, .string x.t.nm]] w fun e w' => e = .returned (.int .i64 x.t.id) ∧ Below w.heap.size w w' := by
 have HB : Hid (Below w.heap.size w (w.alloc (.cells #[.int .i64 x.t.id, .int .i64 x.t.st, .int .i64 x.t.snap, .int .i64 x.t.cs, .slice x.ra x.t.rs.length x.rc, .slice x.wa x.t.ws.length x.wc, .bool x.t.out, .string x.t.nm] 62))) := (belowRefl w).alloc (Nat.le_refl _) _
 go_enter Tryz.func137, Tryz.ntmps137
 go_wp2
 go_ret
 exact ⟨rfl, HB.out⟩

end Go.Proofs.YtmijppfppigjcaaGreat

namespace Go.Proofs.YtmijppfppigjcaaGreat
open Go.RowKit
open KM
attribute [local go_sem ↓] Go.wp_at_zero Go.wp_at_succ

theorem tone {y : Ta} : ∀ u ∈ encT.enc y, u.oneCell' = true := by
 intro u hu
 simp only [encT, List.mem_cons, List.not_mem_nil, or_false] at hu
 rcases hu with rfl | rfl | rfl | rfl | rfl | rfl | rfl | rfl <;> rfl

set_option maxRecDepth 100000 in
set_option maxHeartbeats 2000000 in
theorem stays80 (x lim : Int) (lb : Nat) (w : World) (hb : Bx w lb [.int .i64 lim]) :
  Calls Tryz.prog 106 #[.int .i64 x, .pointer (some ⟨lb, 0, none⟩)] w fun e w' => e = .returned (.bool (decide (lim < x))) ∧ Below w.heap.size w w' := by
 have c0 := hb.c0
 go_enter Tryz.func106, Tryz.ntmps106
 go_wp2
 go_ret
 exact ⟨rfl, belowRefl w⟩

end Go.Proofs.YtmijppfppigjcaaGreat

namespace Go.Proofs.YtmijppfppigjcaaGreat
open Go.RowKit
open KM
attribute [local go_sem ↓] Go.wp_at_zero Go.wp_at_succ

structure Sl where
 a : Option Addr
 n : Nat
 c : Nat
 xs : List Ta
structure SlOk (w : World) (s : Sl) : Prop where
 n : s.n = s.xs.length
 r : GRow encT w s.a s.xs
 z : s.a = none → s.n = 0 ∧ s.c = 0
theorem SlOk.below {w w' : World} {s : Sl} (h : SlOk w s) (hb : Below w.heap.size w w') : SlOk w' s := ⟨h.n, h.r.below hb, h.z⟩
end Go.Proofs.YtmijppfppigjcaaGreat


namespace Go.Proofs.YtmijppfppigjcaaGreat
open Go.RowKit
open KM
open Go.Sort
attribute [local go_sem ↓] Go.wp_at_zero Go.wp_at_succ

end Go.Proofs.YtmijppfppigjcaaGreat

namespace Go.Proofs.YtmijppfppigjcaaGreat
open Go.RowKit
open KM
attribute [local go_sem ↓] Go.wp_at_zero Go.wp_at_succ

end Go.Proofs.YtmijppfppigjcaaGreat

namespace Go.Proofs.YtmijppfppigjcaaGreat
open Go.RowKit
open KM
attribute [local go_sem ↓] Go.wp_at_zero Go.wp_at_succ

end Go.Proofs.YtmijppfppigjcaaGreat

namespace Go.Proofs.YtmijppfppigjcaaGreat
open Go.RowKit
open KM
attribute [local go_sem ↓] Go.wp_at_zero Go.wp_at_succ

end Go.Proofs.YtmijppfppigjcaaGreat

namespace Go.Proofs.YtmijppfppigjcaaGreat
open Go.RowKit
open KM
attribute [local go_sem ↓] Go.wp_at_zero Go.wp_at_succ

end Go.Proofs.YtmijppfppigjcaaGreat
