/- What the drawing functions of the specification do to their cursor. -/
import Derived.Test.YtnljmdodpffmoaaGreatPc03
import Derived.Test.YtnljmdodpffmoaaGreatPc01
namespace Go.Proofs.YtnljmdodpffmoaaGreat
open Go.RowKit
open KM
attribute [local go_sem ↓] Go.wp_at_zero Go.wp_at_succ

def CodeOk (w : World) (a : Option Addr) (len g : Nat) : Prop :=
 0 < len → ∃ b off, a = some ⟨b, off, none⟩ ∧ b < w.heap.size ∧ b ≠ g ∧ ∀ i, i < len → ∃ z : Int, 0 ≤ z ∧ z ≤ 255 ∧ w.cell? ⟨b, off + i, none⟩ = some (.int .u8 z)

structure Cur (w : World) (g : Nat) (a : Option Addr) (len cap : Nat) (i h : Int) : Prop where
 c0 : w.cell? ⟨g, 0, none⟩ = some (.slice a len cap)
 c1 : w.cell? ⟨g, 1, none⟩ = some (.int .i64 i)
 c2 : w.cell? ⟨g, 2, none⟩ = some (.int .i64 h)
 free : ∀ j, w.frozen? ⟨g, j, none⟩ = false
 i0 : 0 ≤ i
 i1 : i ≤ (len : Int)

theorem and_mask (x : Int) (m : Nat) (hm : m < 9223372036854775808) : 0 ≤ bits .and .i64 x (m : Int) ∧ bits .and .i64 x (m : Int) ≤ (m : Int) := by
 have e : (BitVec.ofInt 64 (m : Int)).toNat = m := by
  rw [BitVec.ofInt_natCast, BitVec.toNat_ofNat]; exact Nat.mod_eq_of_lt (by omega)
 have h : ((BitVec.ofInt 64 x &&& BitVec.ofInt 64 (m : Int)).toNat) ≤ m := by
  rw [BitVec.toNat_and, e]; exact Nat.and_le_right
 show 0 ≤ IntKind.i64.wrap ((BitVec.ofInt 64 x &&& BitVec.ofInt 64 (m : Int)).toNat : Int) ∧ IntKind.i64.wrap ((BitVec.ofInt 64 x &&& BitVec.ofInt 64 (m : Int)).toNat : Int) ≤ (m : Int)
 generalize (BitVec.ofInt 64 x &&& BitVec.ofInt 64 (m : Int)).toNat = y at h
 rw [IntKind.wrap_i64]
 omega

theorem and255 (x : Int) : 0 ≤ bits .and .i64 x 255 ∧ bits .and .i64 x 255 ≤ 255 := and_mask x 255 (by omega)

theorem CodeOk.grown {w w' : World} {a : Option Addr} {len g : Nat} (h : CodeOk w a len g) (hg : w.grownBy w' (some g)) : CodeOk w' a len g := fun hl => by
 obtain ⟨b, off, ha, hb, hne, hz⟩ := h hl
 refine ⟨b, off, ha, Nat.lt_of_lt_of_le hb hg.size, hne, fun i hi => ?_⟩
 obtain ⟨z, h0, h1, hc⟩ := hz i hi
 exact ⟨z, h0, h1, (World.cell?_of_block (w := w) (a := ⟨b, off + i, none⟩) (hg.block b hb (fun e => hne (Option.some.inj e)))).trans hc⟩

theorem Cur.setH {w : World} {g len cap : Nat} {a : Option Addr} {i h : Int} (c : Cur w g a len cap i h) (H : Int) : Cur (w.setCell ⟨g, 2, none⟩ (.int .i64 H)) g a len cap i H :=
 ⟨by rw [World.cell?_setCell_other _ _ _ _ (addr_ne g (show 2 ≠ 0 by omega))]; exact c.c0,
 by rw [World.cell?_setCell_other _ _ _ _ (addr_ne g (show 2 ≠ 1 by omega))]; exact c.c1,
 World.cell?_setCell_same _ _ _ c.c2, fun j => by rw [World.frozen?_setCell]; exact c.free j, c.i0, c.i1⟩

theorem Cur.setI {w : World} {g len cap : Nat} {a : Option Addr} {i h : Int} (c : Cur w g a len cap i h) (I : Int) (h0 : 0 ≤ I) (h1 : I ≤ (len : Int)) : Cur (w.setCell ⟨g, 1, none⟩ (.int .i64 I)) g a len cap I h :=
 ⟨by rw [World.cell?_setCell_other _ _ _ _ (addr_ne g (show 1 ≠ 0 by omega))]; exact c.c0,
 World.cell?_setCell_same _ _ _ c.c1,
 by rw [World.cell?_setCell_other _ _ _ _ (addr_ne g (show 1 ≠ 2 by omega))]; exact c.c2,
 fun j => by rw [World.frozen?_setCell]; exact c.free j, h0, h1⟩

theorem Cur.drewN {w : World} {g len cap : Nat} {a : Option Addr} {i h : Int} (c : Cur w g a len cap i h) (n : Nat) : Cur (w.drewN n) g a len cap i h := ⟨c.c0, c.c1, c.c2, c.free, c.i0, c.i1⟩

set_option maxRecDepth 100000 in
set_option maxHeartbeats 1000000 in
theorem byte26 (g len cap : Nat) (a : Option Addr) (i h : Int) (hl : len ≤ 1048576) (w : World) (hc : Cur w g a len cap i h) (hk : CodeOk w a len g) :
  Calls Tryz.prog 77 #[.pointer (some ⟨g, 0, none⟩)] w fun e w' => ∃ x i' h' : Int, e = .returned (.int .i64 x) ∧ 0 ≤ x ∧ x ≤ 255 ∧ Cur w' g a len cap i' h' ∧ w.grownBy w' (some g) := by
 obtain ⟨n, rfl⟩ := Int.eq_ofNat_of_zero_le hc.i0
 have HC : Hid (Cur w g a len cap n h) := hc
 have HK : Hid (CodeOk w a len g) := hk
 have hn : n ≤ len := by have := hc.i1; omega
 have k0 := hc.c0
 have k1 := hc.c1
 have k2 := hc.c2
 have f0 := hc.free
 clear hc hk
 go_enter Tryz.func77, Tryz.ntmps77
 go_wp2
 generalize wrap64 (wrap64 (h * 6364136223846793005) + 1442695040888963407) = H
 have hc1 := HC.out.setH H
 have hg1 := grown_set w g 2 (.int .i64 H)
 have hk1 := HK.out.grown hg1
 generalize w.setCell ⟨g, 2, none⟩ (.int .i64 H) = W1 at *
 have HC1 : Hid (Cur W1 g a len cap n H) := hc1
 have HG1 : Hid (w.grownBy W1 (some g)) := hg1
 have HK1 : Hid (CodeOk W1 a len g) := hk1
 clear k0 k1 k2 f0
 have k0 := hc1.c0
 have k1 := hc1.c1
 have k2 := hc1.c2
 have f0 := hc1.free
 clear hc1 hg1 hk1
 by_cases hlt : n < len
 ·have hlt' : (n : Int) < (len : Int) := by omega
  have hn0 : (0 : Int) ≤ (n : Int) := by omega
  obtain ⟨b, off, rfl, hbb, hbne, hz⟩ := HK1.out (by omega)
  obtain ⟨z, z0, z1, hcz⟩ := hz n hlt
  clear hz
  go_quiet (fail)
  go_wp2
  go_quiet (fail)
  go_wp2
  go_quiet (fail)
  go_wp2
  go_ret
  have hs := HC1.out.setI ((n : Int) + 1) (by omega) (by omega)
  have hg := grown_trans HG1.out (grown_set W1 g 1 (.int .i64 ((n : Int) + 1)))
  exact ⟨_, (n : Int) + 1, H, rfl, (and255 _).1, (and255 _).2, ⟨hs.c0, hs.c1, hs.c2, hs.free, hs.i0, hs.i1⟩, ⟨hg.os, hg.tape, hg.output, hg.size, hg.block⟩⟩
 ·have hlt' : decide ((n : Int) < (len : Int)) = false := by simp; omega
  go_quiet (fail)
  go_wp2
  go_quiet (fail)
  go_wp2
  go_ret
  have hs := HC1.out
  have hg := HG1.out
  exact ⟨_, (n : Int), H, rfl, (and255 _).1, (and255 _).2, ⟨hs.c0, hs.c1, hs.c2, hs.free, hs.i0, hs.i1⟩, ⟨hg.os, hg.tape, hg.output, hg.size, hg.block⟩⟩

def CurOk (w : World) (g : Nat) (a : Option Addr) (len cap : Nat) : Prop := ∃ i h, Cur w g a len cap i h ∧ CodeOk w a len g

theorem CurOk.below {w w' : World} {g len cap : Nat} {a : Option Addr} (h : CurOk w g a len cap) (hb : Below w.heap.size w w') (hg : g < w.heap.size) : CurOk w' g a len cap := by
 obtain ⟨i, x, c, k⟩ := h
 refine ⟨i, x, ⟨(hb.cell (p := ⟨g, 0, none⟩) hg).trans c.c0, (hb.cell (p := ⟨g, 1, none⟩) hg).trans c.c1, (hb.cell (p := ⟨g, 2, none⟩) hg).trans c.c2, fun j => (hb.frozen (p := ⟨g, j, none⟩) hg).trans (c.free j), c.i0, c.i1⟩, fun hl => ?_⟩
 obtain ⟨b, off, ha, hb1, hne, hz⟩ := k hl
 refine ⟨b, off, ha, Nat.lt_of_lt_of_le hb1 hb.size, hne, fun j hj => ?_⟩
 obtain ⟨z, h0, h1, hc⟩ := hz j hj
 exact ⟨z, h0, h1, (hb.cell (p := ⟨b, off + j, none⟩) hb1).trans hc⟩

theorem byteOk (g len cap : Nat) (a : Option Addr) (hl : len ≤ 1048576) (w : World) (hc : CurOk w g a len cap) :
  Calls Tryz.prog 77 #[.pointer (some ⟨g, 0, none⟩)] w fun e w' => ∃ x : Nat, x ≤ 255 ∧ e = .returned (.int .i64 (x : Int)) ∧ CurOk w' g a len cap ∧ w.grownBy w' (some g) := by
 obtain ⟨i, h, c, k⟩ := hc
 refine (byte26 g len cap a i h hl w c k).mono ?_
 rintro e w' ⟨x, i', h', rfl, h0, h1, hc, hg⟩
 obtain ⟨n, rfl⟩ := Int.eq_ofNat_of_zero_le h0
 exact ⟨n, by omega, rfl, ⟨i', h', hc, k.grown hg⟩, hg⟩

set_option maxRecDepth 100000 in
set_option maxHeartbeats 1000000 in
theorem below21 (g len cap : Nat) (a : Option Addr) (n : Nat) (h0 : 0 < n) (hn : n ≤ 1000000000) (hl : len ≤ 1048576) (w : World) (hc : CurOk w g a len cap) :
  Calls Tryz.prog 30 #[.pointer (some ⟨g, 0, none⟩), .int .i64 (n : Int)] w fun e w' => ∃ x : Nat, x < n ∧ e = .returned (.int .i64 (x : Int)) ∧ CurOk w' g a len cap ∧ w.grownBy w' (some g) := by
 have HC : Hid (CurOk w g a len cap) := hc
 clear hc
 by_cases hs : n ≤ 256
 ·go_enter Tryz.func30, Tryz.ntmps30
  go_wp2_with (go_at_call 77; refine (byteOk g len cap a hl _ HC.out).mono ?_; rintro e w1 ⟨x, hx, rfl, hc1, hg1⟩)
  go_ret
  exact ⟨x % n, Nat.mod_lt _ h0, by go_num, hc1, hg1⟩
 ·have hs' : ¬ (n : Int) ≤ 256 := by omega
  go_enter Tryz.func30, Tryz.ntmps30
  go_wp2_with fail
  refine (byteOk g len cap a hl _ HC.out).mono ?_
  rintro e w1 ⟨x, hx, rfl, hc1, hg1⟩
  have HC1 : Hid (CurOk w1 g a len cap) := hc1
  have HG1 : Hid (w.grownBy w1 (some g)) := hg1
  clear hc1 hg1
  go_wp2_with fail
  refine (byteOk g len cap a hl _ HC1.out).mono ?_
  rintro e w2 ⟨y, hy, rfl, hc2, hg2⟩
  have HC2 : Hid (CurOk w2 g a len cap) := hc2
  have HG2 : Hid (w.grownBy w2 (some g)) := grown_trans HG1.out hg2
  clear hc2 hg2
  go_wp2_with fail
  refine (byteOk g len cap a hl _ HC2.out).mono ?_
  rintro e w3 ⟨z, hz, rfl, hc3, hg3⟩
  have HC3 : Hid (CurOk w3 g a len cap) := hc3
  have HG3 : Hid (w.grownBy w3 (some g)) := grown_trans HG2.out hg3
  clear hc3 hg3
  go_wp2_with fail
  refine (byteOk g len cap a hl _ HC3.out).mono ?_
  rintro e w4 ⟨u, hu, rfl, hc4, hg4⟩
  have HC4 : Hid (CurOk w4 g a len cap) := hc4
  have HG4 : Hid (w.grownBy w4 (some g)) := grown_trans HG3.out hg4
  clear hc4 hg4
  go_wp2
  go_ret
  exact ⟨(x * 16777216 + y * 65536 + z * 256 + u) % n, Nat.mod_lt _ h0, by go_num, HC4.out, HG4.out⟩

def CodeRow (w : World) (a : Option Addr) (len : Nat) : Prop :=
 0 < len → ∃ b off, a = some ⟨b, off, none⟩ ∧ b < w.heap.size ∧ ∀ i, i < len → ∃ z : Int, 0 ≤ z ∧ z ≤ 255 ∧ w.cell? ⟨b, off + i, none⟩ = some (.int .u8 z)

theorem CodeRow.below {w w' : World} {a : Option Addr} {len : Nat} (h : CodeRow w a len) (hb : Below w.heap.size w w') : CodeRow w' a len := fun hl => by
 obtain ⟨b, off, ha, hb1, hz⟩ := h hl
 refine ⟨b, off, ha, Nat.lt_of_lt_of_le hb1 hb.size, fun j hj => ?_⟩
 obtain ⟨z, h0, h1, hc⟩ := hz j hj
 exact ⟨z, h0, h1, (hb.cell (p := ⟨b, off + j, none⟩) hb1).trans hc⟩

theorem curNew (w : World) (a : Option Addr) (len cap : Nat) (H : Int) (hr : CodeRow w a len) : CurOk (w.alloc (.cells #[.slice a len cap, .int .i64 0, .int .i64 H] 100)) w.heap.size a len cap := by
 refine ⟨0, H, ⟨?_, ?_, ?_, ?_, by omega, by omega⟩, fun hl => ?_⟩
 ·exact World.cell?_alloc_mark w _ 100 (0, 0) 0
 ·exact World.cell?_alloc_mark w _ 100 (0, 0) 1
 ·exact World.cell?_alloc_mark w _ 100 (0, 0) 2
 ·intro j
  rw [show (w.alloc (.cells #[.slice a len cap, .int .i64 0, .int .i64 H] 100)).frozen? ⟨w.heap.size, j, none⟩ = _ from World.frozen?_alloc_mark w _ 100 0 0 j]
  simp
 ·obtain ⟨b, off, ha, hb1, hz⟩ := hr hl
  refine ⟨b, off, ha, by simp; omega, by omega, fun j hj => ?_⟩
  obtain ⟨z, h0, h1, hc⟩ := hz j hj
  exact ⟨z, h0, h1, (World.cell?_alloc_past _ _ _ (by omega)).trans hc⟩

set_option maxRecDepth 100000 in
set_option maxHeartbeats 1000000 in
theorem new16 (len cap : Nat) (a : Option Addr) (hl : len ≤ 1048576) (w : World) (hr : CodeRow w a len) :
  Calls Tryz.prog 24 #[.slice a len cap] w fun e w' => e = .returned (.pointer (some ⟨w.heap.size, 0, none⟩)) ∧ CurOk w' w.heap.size a len cap ∧ Below w.heap.size w w' ∧ w.heap.size < w'.heap.size := by
 have HR : Hid (CodeRow w a len) := hr
 clear hr
 go_enter Tryz.func24, Tryz.ntmps24
 go_wp2
 go_loop [3, 4] (fun t3 t4 => ∃ (k : Nat) (H : Int), k ≤ len ∧ t4 = .int .i64 (k : Int) ∧ t3 = .int .i64 H) (fun _ t4 => len - (intOf t4).toNat)
 case atStart => exact ⟨0, _, Nat.zero_le _, rfl, rfl⟩
 case round =>
  obtain ⟨k, H, hk, rfl, rfl⟩ := hrel
  by_cases hlt : k < len
  ·have hlt' : (k : Int) < (len : Int) := by omega
   by_cases h4 : k < 4000
   ·have h4' : (k : Int) < 4000 := by omega
    have h0 : (0 : Int) ≤ (k : Int) := by omega
    obtain ⟨b, off, rfl, hbb, hz⟩ := HR.out (by omega)
    obtain ⟨z, z0, z1, hcz⟩ := hz k hlt
    clear hz
    go_wp2
    go_round
    case rel => exact ⟨k + 1, _, by omega, by go_num, rfl⟩
    case measure => simp [intOf]; omega
   ·have h4' : decide ((k : Int) < 4000) = false := by simp; omega
    go_wp2
    go_ret
    exact ⟨rfl, curNew w a len cap H HR.out, (Below.refl _ _).alloc (Nat.le_refl _) _, by simp⟩
  ·have hlt' : decide ((k : Int) < (len : Int)) = false := by simp; omega
   go_wp2
   go_ret
   exact ⟨rfl, curNew w a len cap H HR.out, (Below.refl _ _).alloc (Nat.le_refl _) _, by simp⟩

structure CurI (w : World) (g : Nat) (a : Option Addr) (len cap : Nat) : Prop where
 c : CurOk w g a len cap
 lt : g < w.heap.size
 sm : len ≤ 1048576
theorem CurI.below {w w' : World} {g len cap : Nat} {a : Option Addr} (h : CurI w g a len cap) (hb : Below w.heap.size w w') : CurI w' g a len cap :=
 ⟨h.c.below hb h.lt, Nat.lt_of_lt_of_le h.lt hb.size, h.sm⟩
theorem CurI.drew {w : World} {g len cap : Nat} {a : Option Addr} (h : CurI w g a len cap) : CurI w.drew g a len cap := h.below ((belowRefl w).drew)
theorem CurI.alloc {w : World} {g len cap : Nat} {a : Option Addr} (h : CurI w g a len cap) (o : Obj) : CurI (w.alloc o) g a len cap := h.below ((belowRefl w).alloc (Nat.le_refl _) o)

def OldC (w0 : World) (g : Nat) (a : Option Addr) (len : Nat) : Prop := g < w0.heap.size ∧ ∀ b off, a = some ⟨b, off, none⟩ → 0 < len → b < w0.heap.size
theorem CurI.old {w : World} {g len cap : Nat} {a : Option Addr} (h : CurI w g a len cap) : OldC w g a len :=
 ⟨h.lt, fun b off e hl => by
  obtain ⟨i, x, c, k⟩ := h.c
  obtain ⟨b', off', ha, hb, _⟩ := k hl
  rw [e] at ha
  cases ha
  exact hb⟩
theorem OldC.le {w w' : World} {g len : Nat} {a : Option Addr} (h : OldC w g a len) (hs : w.heap.size ≤ w'.heap.size) : OldC w' g a len :=
 ⟨Nat.lt_of_lt_of_le h.1 hs, fun b off e hl => Nat.lt_of_lt_of_le (h.2 b off e hl) hs⟩

theorem CurOk.belowB {w w' : World} {g len cap B : Nat} {a : Option Addr} (h : CurOk w g a len cap) (hb : Below B w w') (hg : g < B) (hcode : ∀ b off, a = some ⟨b, off, none⟩ → 0 < len → b < B) : CurOk w' g a len cap := by
 obtain ⟨i, x, c, k⟩ := h
 refine ⟨i, x, ⟨(hb.cell (p := ⟨g, 0, none⟩) hg).trans c.c0, (hb.cell (p := ⟨g, 1, none⟩) hg).trans c.c1, (hb.cell (p := ⟨g, 2, none⟩) hg).trans c.c2, fun j => (hb.frozen (p := ⟨g, j, none⟩) hg).trans (c.free j), c.i0, c.i1⟩, fun hl => ?_⟩
 obtain ⟨b, off, ha, hb1, hne, hz⟩ := k hl
 refine ⟨b, off, ha, Nat.lt_of_lt_of_le hb1 hb.size, hne, fun j hj => ?_⟩
 obtain ⟨z, h0, h1, hc⟩ := hz j hj
 exact ⟨z, h0, h1, (hb.cell (p := ⟨b, off + j, none⟩) (hcode b off ha hl)).trans hc⟩
theorem grown_belowB {w w2 w3 : World} {g B : Nat} (h : w.grownBy w2 (some g)) (hb : Below B w2 w3) (hB : w.heap.size ≤ B) : w.grownBy w3 (some g) :=
 ⟨hb.os.trans h.os, hb.tape.trans h.tape, hb.output.trans h.output, Nat.le_trans h.size hb.size, fun j hj hne => (hb.block j (by omega)).trans (h.block j hj hne)⟩

structure Dn (w0 w : World) (g : Nat) (a : Option Addr) (len cap : Nat) : Prop where
 c : CurI w g a len cap
 gr : w0.grownBy w (some g)
 old : OldC w0 g a len
section
variable {w0 w w' : World} {g len cap : Nat} {a : Option Addr}
theorem Dn.start (h : CurI w g a len cap) : Dn w w g a len cap := ⟨h, grown_refl _ _, h.old⟩
theorem Dn.step (h : Dn w0 w g a len cap) (h2 : Dn w w' g a len cap) : Dn w0 w' g a len cap := ⟨h2.c, grown_trans h.gr h2.gr, h.old⟩
theorem Dn.belowB (h : Dn w0 w g a len cap) (hb : Below w0.heap.size w w') : Dn w0 w' g a len cap :=
 ⟨⟨h.c.c.belowB hb h.old.1 h.old.2, Nat.lt_of_lt_of_le h.c.lt hb.size, h.c.sm⟩, grown_belowB h.gr hb (Nat.le_refl _), h.old⟩
theorem Dn.below (h : Dn w0 w g a len cap) (hb : Below w.heap.size w w') : Dn w0 w' g a len cap := h.belowB (hb.mono h.gr.size)
theorem Dn.set (h : Dn w0 w g a len cap) {p : Addr} (hp : w0.heap.size ≤ p.block) (u : Value) : Dn w0 (w.setCell p u) g a len cap := h.belowB ((Below.refl _ _).setCell hp u)
theorem Dn.alloc (h : Dn w0 w g a len cap) (o : Obj) : Dn w0 (w.alloc o) g a len cap := h.below ((belowRefl w).alloc (Nat.le_refl _) o)
theorem Dn.drew (h : Dn w0 w g a len cap) : Dn w0 w.drew g a len cap := h.below ((belowRefl w).drew)
theorem Dn.size (h : Dn w0 w g a len cap) : w0.heap.size ≤ w.heap.size := h.gr.size
theorem Dn.out {B : Nat} (h : Dn w0 w g a len cap) (hB : Below B w' w0) (hg : B ≤ g) (hs : B ≤ w0.heap.size) : Below B w' w :=
 hB.grown h.gr hs (fun j hj => by cases hj; exact hg)
theorem GOwn.keptD {α : Type} {E : Enc α} {e : TypeId} {base : Nat} {v : Value} {l : List α} (h : GOwn E e w base v l) (d : Dn w w' g a len cap) (hlt : g < base) : GOwn E e w' base v l :=
 World.ownsRow.kept h d.gr (by
  cases e : v.ownBlock with
  | none => exact Or.inl rfl
  | some k => right; intro e2; have := (World.ownsRow.lt h k e).1; have := Option.some.inj e2; omega)
end

section
variable {w w' : World} {b : Nat} {cs : List Value}
theorem Bx.keptD {g len cap : Nat} {a : Option Addr} (h : Bx w b cs) (d : Dn w w' g a len cap) (hne : b ≠ g) : Bx w' b cs := h.grown d.gr hne
end

theorem drBelow (g len cap : Nat) (a : Option Addr) (n : Nat) (h0 : 0 < n) (hn : n ≤ 1000000000) (w : World) (hc : CurI w g a len cap) :
  Calls Tryz.prog 30 #[.pointer (some ⟨g, 0, none⟩), .int .i64 (n : Int)] w fun e w' => ∃ x : Nat, x < n ∧ e = .returned (.int .i64 (x : Int)) ∧ Dn w w' g a len cap := by
 refine (below21 g len cap a n h0 hn hc.sm w hc.c).mono ?_
 rintro e w' ⟨x, hx, rfl, hc', hg⟩
 exact ⟨x, hx, rfl, ⟨hc', Nat.lt_of_lt_of_le hc.lt hg.size, hc.sm⟩, hg, hc.old⟩

theorem drNew (len cap : Nat) (a : Option Addr) (hl : len ≤ 1048576) (w : World) (hr : CodeRow w a len) :
  Calls Tryz.prog 24 #[.slice a len cap] w fun e w' => e = .returned (.pointer (some ⟨w.heap.size, 0, none⟩)) ∧ CurI w' w.heap.size a len cap ∧ Below w.heap.size w w' := by
 refine (new16 len cap a hl w hr).mono ?_
 rintro e w' ⟨rfl, hc, hb, hs⟩
 exact ⟨rfl, ⟨hc, hs, hl⟩, hb⟩

set_option maxHeartbeats 400000 in
theorem drOnce (g len cap : Nat) (a : Option Addr) (n : Nat) (h0 : 0 < n) (hn : n ≤ 1000000000) (w : World) (hc : CurI w g a len cap) :
  Calls Tryz.prog 38 #[.pointer (some ⟨g, 0, none⟩), .int .i64 (n : Int)] w fun e w' => ∃ b : Bool, e = .returned (.bool b) ∧ Dn w w' g a len cap := by
 have HC : Hid (CurI w g a len cap) := hc
 clear hc
 go_enter Tryz.func38, Tryz.ntmps38
 go_wp2_with (go_at_call 30; refine (drBelow g len cap a n h0 hn _ HC.out).mono ?_; rintro e w1 ⟨x, hx, rfl, d1⟩)
 go_ret
 exact ⟨_, rfl, d1⟩

set_option maxHeartbeats 400000 in
theorem drPick (g len cap : Nat) (a : Option Addr) (ss : List ByteArray) (g2 c2 : Nat) (h0 : 0 < ss.length) (hn : ss.length ≤ 1000) (w : World) (hc : CurI w g a len cap) (hne : g2 ≠ g) (hb : Bx w g2 (ss.map Value.string)) :
  Calls Tryz.prog 88 #[.pointer (some ⟨g, 0, none⟩), .slice (some ⟨g2, 0, none⟩) ss.length c2] w fun e w' => ∃ s ∈ ss, e = .returned (.string s) ∧ Dn w w' g a len cap := by
 have HC : Hid (CurI w g a len cap) := hc
 have HX : Hid (Bx w g2 (ss.map Value.string)) := hb
 clear hc hb
 go_enter Tryz.func88, Tryz.ntmps88
 go_wp2_with fail
 refine (drBelow g len cap a ss.length h0 (by omega) _ HC.out).mono ?_
 rintro e w1 ⟨x, hx, rfl, d1⟩
 have D1 : Hid (Dn w w1 g a len cap) := d1
 have hz1 : w1.cell? ⟨g2, x, none⟩ = some (.string ss[x]) := by
  rw [(HX.out.keptD d1 hne).at' x (by simpa using hx)]
  simp [hx]
 clear d1
 have hx' : (x : Int) < (ss.length : Int) := by omega
 have hx0 : (0 : Int) ≤ (x : Int) := by omega
 go_wp2
 go_ret
 exact ⟨ss[x], List.getElem_mem hx, rfl, D1.out⟩
end Go.Proofs.YtnljmdodpffmoaaGreat

namespace Go.Proofs.YtnljmdodpffmoaaGreat
open Go.RowKit
open KM
attribute [local go_sem ↓] Go.wp_at_zero Go.wp_at_succ

theorem drPickN (g len cap : Nat) (a : Option Addr) (ss : List ByteArray) (n g2 c2 : Nat) (hl : ss.length = n) (h0 : 0 < n) (hn : n ≤ 1000) (w : World) (hc : CurI w g a len cap) (hne : g2 ≠ g) (hb : Bx w g2 (ss.map Value.string)) :
  Calls Tryz.prog 88 #[.pointer (some ⟨g, 0, none⟩), .slice (some ⟨g2, 0, none⟩) n c2] w fun e w' => ∃ s ∈ ss, e = .returned (.string s) ∧ Dn w w' g a len cap := by
 subst hl
 exact drPick g len cap a ss g2 c2 h0 hn w hc hne hb

def keyL : List ByteArray := [⟨#[97]⟩, ⟨#[98]⟩, ⟨#[99]⟩, ⟨#[100]⟩, ⟨#[97, 98]⟩]
def KeyD (s : ByteArray) : Prop := keyB s = true ∧ s.size ≤ 3
theorem keyL_ok : ∀ s ∈ keyL, KeyD s := by
 intro s hs
 simp only [keyL, List.mem_cons, List.not_mem_nil, or_false] at hs
 rcases hs with rfl | rfl | rfl | rfl | rfl <;> exact ⟨by decide, by decide⟩

set_option maxRecDepth 100000 in
set_option maxHeartbeats 1000000 in
theorem drKey (g len cap : Nat) (a : Option Addr) (w : World) (hc : CurI w g a len cap) :
  Calls Tryz.prog 52 #[.pointer (some ⟨g, 0, none⟩)] w fun e w' => ∃ s, KeyD s ∧ e = .returned (.string s) ∧ Dn w w' g a len cap := by
 have HC : Hid (CurI w g a len cap) := hc
 have hne : w.heap.size ≠ g := Nat.ne_of_gt hc.lt
 clear hc
 go_enter Tryz.func52, Tryz.ntmps52
 go_wp2_with fail
 refine (drPickN g len cap a keyL 5 w.heap.size 5 rfl (by omega) (by omega) _ (HC.out.alloc _) hne (Bx.new w (keyL.map Value.string) 9)).mono ?_
 rintro e w1 ⟨s, hs, rfl, d1⟩
 have D1 : Hid (Dn w w1 g a len cap) := ((Dn.start HC.out).alloc _).step d1
 have HS : Hid (KeyD s) := keyL_ok s hs
 clear d1 hs
 go_wp2
 go_ret
 exact ⟨s, HS.out, rfl, D1.out⟩

def RgD (r : Rg) : Prop := KeyD r.1 ∧ KeyD r.2 ∧ le r.1 r.2 = true
theorem le_refl' (s : ByteArray) : le s s = true := by unfold le; simp
theorem le_of_not_lt {x y : ByteArray} (h : Op.bytesLess x.toList y.toList = false) : le y x = true := by rw [← not_lt, h]; rfl
theorem le_of_lt {x y : ByteArray} (h : Op.bytesLess x.toList y.toList = true) : le x y = true := by unfold le; rw [h]; rfl

set_option maxRecDepth 100000 in
set_option maxHeartbeats 1000000 in
theorem drRange (g len cap : Nat) (a : Option Addr) (w : World) (hc : CurI w g a len cap) :
  Calls Tryz.prog 36 #[.pointer (some ⟨g, 0, none⟩)] w fun e w' => ∃ r : Rg, RgD r ∧ e = .returned (.agg #[.string r.1, .string r.2]) ∧ Dn w w' g a len cap := by
 have HC : Hid (CurI w g a len cap) := hc
 have hne : w.heap.size ≠ g := Nat.ne_of_gt hc.lt
 clear hc
 go_enter Tryz.func36, Tryz.ntmps36
 go_wp2_with fail
 refine (drKey g len cap a _ (HC.out.alloc _)).mono ?_
 rintro e w1 ⟨s, hs, rfl, d1⟩
 have D1 : Hid (Dn w w1 g a len cap) := ((Dn.start HC.out).alloc _).step d1
 have B1 : Hid (Bx w1 w.heap.size [.string ⟨#[]⟩, .string ⟨#[]⟩]) := (Bx.new w [.string ⟨#[]⟩, .string ⟨#[]⟩] 36).keptD d1 hne
 have HS : Hid (KeyD s) := hs
 clear d1 hs
 go_wp2_with fail
 refine (drOnce g len cap a 2 (by omega) (by omega) _ D1.out.c).mono ?_
 rintro e w2 ⟨b, rfl, d2⟩
 have D2 : Hid (Dn w w2 g a len cap) := D1.out.step d2
 have B2 : Hid (Bx w2 w.heap.size [.string ⟨#[]⟩, .string ⟨#[]⟩]) := B1.out.keptD d2 hne
 clear d2
 cases b
 ·go_wp2_with fail
  refine (drKey g len cap a _ D2.out.c).mono ?_
  rintro e w3 ⟨t, ht, rfl, d3⟩
  have D3 : Hid (Dn w w3 g a len cap) := D2.out.step d3
  have B3 : Hid (Bx w3 w.heap.size [.string ⟨#[]⟩, .string ⟨#[]⟩]) := B2.out.keptD d3 hne
  have HT : Hid (KeyD t) := ht
  clear d3 ht
  have c0 := B3.out.c0
  have c1 := B3.out.c1
  have fz := B3.out.fz
  cases hlt : Op.bytesLess t.toList s.toList
  ·go_wp2
   have BF := (B3.out.set 0 (.string s)).set 1 (.string t)
   have e0 := BF.c0
   have e1 := BF.c1
   exact bodyPost_ret (v := .agg #[.string s, .string t]) (by simp [results, Tryz.results36, go_sem, e0, e1]) rfl ⟨(s, t), ⟨HS.out, HT.out, le_of_not_lt hlt⟩, rfl, (D3.out.set (Nat.le_refl _) _).set (Nat.le_refl _) _⟩
  ·go_wp2
   have BF := (B3.out.set 0 (.string t)).set 1 (.string s)
   have e0 := BF.c0
   have e1 := BF.c1
   exact bodyPost_ret (v := .agg #[.string t, .string s]) (by simp [results, Tryz.results36, go_sem, e0, e1]) rfl ⟨(t, s), ⟨HT.out, HS.out, le_of_lt hlt⟩, rfl, (D3.out.set (Nat.le_refl _) _).set (Nat.le_refl _) _⟩
 ·have c0 := B2.out.c0
  have c1 := B2.out.c1
  have fz := B2.out.fz
  go_wp2
  have BF := (B2.out.set 0 (.string s)).set 1 (.string s)
  have e0 := BF.c0
  have e1 := BF.c1
  exact bodyPost_ret (v := .agg #[.string s, .string s]) (by simp [results, Tryz.results36, go_sem, e0, e1]) rfl ⟨(s, s), ⟨HS.out, HS.out, le_refl' s⟩, rfl, (D2.out.set (Nat.le_refl _) _).set (Nat.le_refl _) _⟩

end Go.Proofs.YtnljmdodpffmoaaGreat

namespace Go.Proofs.YtnljmdodpffmoaaGreat
open Go.RowKit
open KM
attribute [local go_sem ↓] Go.wp_at_zero Go.wp_at_succ

def putS (xs : List Wt) (x : Wt) : List Wt := xs.filter (fun y => lt y.1 x.1) ++ [x] ++ xs.filter (fun y => lt x.1 y.1)

theorem wone {s t : ByteArray} {b : Bool} : ∀ u ∈ ([.string s, .string t, .bool b] : List Value), u.oneCell' = true := by
 intro u hu
 simp only [List.mem_cons, List.not_mem_nil, or_false] at hu
 rcases hu with rfl | rfl | rfl <;> rfl
theorem rone {s t : ByteArray} : ∀ u ∈ ([.string s, .string t] : List Value), u.oneCell' = true := by
 intro u hu
 simp only [List.mem_cons, List.not_mem_nil, or_false] at hu
 rcases hu with rfl | rfl <;> rfl

theorem wpAppW {ops : Array Oper} {rest : List Oper} {o : Oper} {a : Act} {Q : Exit → Act → World → Prop} (hgd : o.guard = none) (s x : Operand) (ho : o.op = .call { callee := .builtin .append, args := #[s, x], argTypes := #[25, 25] })
  {W : World} {base : Nat} {v : Value} {xs : List Wt} (y : Wt) (hs : a.eval s = v) (hown : GOwn encW 42 W base v xs)
  (hx : a.eval x = .slice (some ⟨W.heap.size, 0, none⟩) 1 1) (hlen : xs.length ≤ 100000000) (hB : base ≤ W.heap.size)
  (h : ∀ v' w', GOwn encW 42 w' base v' (xs ++ [y]) → Below base W w' → wpList Tryz.prog ops Q rest (a.put o.dst v') w') :
  wpList Tryz.prog ops Q (o :: rest) a (W.alloc (.cells #[.string y.1, .string y.2.1, .bool y.2.2] 42)) := by
 refine wpAppG 25 42 3 40 _ Tryz.underlying25 Tryz.info42 rfl (by omega) (by omega) hgd s x ho (encW.enc y) hs (World.ownsRow.alloc hown _) hx (heap_alloc_new W _) rfl wone (by omega) (by simp; omega) ?_
 intro g' cap w' h1 h2
 refine h _ w' ?_ (((Below.refl _ _).alloc hB _).trans h2)
 have e : encW.cells (xs ++ [y]) = encW.cells xs ++ encW.enc y := by rw [encW.cells_app]; simp [Enc.cells]
 unfold GOwn
 rw [e, List.length_append]
 exact h1
set_option maxRecDepth 100000 in
set_option maxHeartbeats 2000000 in
theorem sput (xs : List Wt) (x : Wt) (a : Option Addr) (c : Nat) (hn : xs.length ≤ 1000000) (w : World) (hp : GRow encW w a xs) :
  Calls Tryz.prog 50 #[.slice a xs.length c, .agg #[.string x.1, .string x.2.1, .bool x.2.2]] w fun e w' => ∃ a1 c1, e = .returned (.slice a1 (putS xs x).length c1) ∧ GOwn encW 42 w' w.heap.size (.slice a1 (putS xs x).length c1) (putS xs x) ∧ Below w.heap.size w w' := by
 have HP : Hid (GRow encW w a xs) := hp
 clear hp
 have B0 : Hid (Bx (w.alloc (.cells #[.string x.1, .string x.2.1, .bool x.2.2] 42)) w.heap.size [.string x.1, .string x.2.1, .bool x.2.2]) := Bx.new w _ 42
 have HB0 : Hid (Below w.heap.size w (w.alloc (.cells #[.string x.1, .string x.2.1, .bool x.2.2] 42))) := (belowRefl w).alloc (Nat.le_refl _) _
 go_enter Tryz.func50, Tryz.ntmps50
 go_wp2
 go_loopw [5, 6] (fun v t wr => ∃ k : Nat, k ≤ xs.length ∧ t = .int .i64 k ∧ Hid (GOwn encW 42 wr (w.heap.size + 1) v ((xs.take k).filter fun y => lt y.1 x.1)) ∧ Hid (Bx wr w.heap.size [.string x.1, .string x.2.1, .bool x.2.2]) ∧ Hid (Below w.heap.size w wr)) (fun _ t _ => xs.length - (intOf t).toNat)
 case atStart =>
  refine ⟨0, Nat.zero_le _, rfl, ?_, B0.out.alloc _, HB0.out.alloc HB0.out.size _⟩
  have h := GOwn.empty (E := encW) (e := 42) (w.alloc (.cells #[.string x.1, .string x.2.1, .bool x.2.2] 42)) (w.heap.size + 1) (by rw [World.size_alloc]; exact Nat.le_refl _)
  rw [World.size_alloc] at h
  exact h
 case round =>
  clear B0 HB0
  obtain ⟨k, hk, rfl, HO, HX, HB⟩ := hrel
  by_cases hlt : k < xs.length
  ·have hlt' : (k : Int) < (xs.length : Int) := by omega
   have hk0 : (0 : Int) ≤ (k : Int) := by omega
   obtain ⟨b, off, rfl, hbl, hc⟩ := (HP.out.below HB.out) (by omega)
   have r0 := (wat hc k hlt).1
   have r1 := (wat hc k hlt).2.1
   have r2 := (wat hc k hlt).2.2
   clear hc
   have x0 := HX.out.c0
   cases hl : lt xs[k].1 x.1
   ·have hl' : Op.bytesLess xs[k].1.toList x.1.toList = false := hl
    have ho2 := HO.out
    rw [← filter_no (p := fun y => lt y.1 x.1) hlt hl] at ho2
    have HO2 := hide ho2
    clear ho2
    clear hl
    go_wp2
    go_quiet (fail)
    go_wp2
    go_roundw
    case rel => exact ⟨k + 1, by omega, by go_num, HO2, HX.out.below (below_drewN (belowRefl wr) _), below_drewN HB.out _⟩
    case measure => simp [intOf]; omega
   ·have hl' : Op.bytesLess xs[k].1.toList x.1.toList = true := hl
    have hlen : ((xs.take k).filter fun y => lt y.1 x.1).length ≤ 1000000 := Nat.le_trans (List.length_filter_le _ _) (by rw [List.length_take]; omega)
    have hsz : w.heap.size + 1 ≤ wr.heap.size := HX.out.lt
    go_wp2
    go_quiet (fail)
    go_wp2_with (at_builtin; refine wpAppW rfl _ _ rfl xs[k] rfl (HO.out.drewN _) rfl (by omega) hsz ?_)
    intro v' w' ho' hb'
    have HO2 : Hid (GOwn encW 42 w' (w.heap.size + 1) v' ((xs.take (k + 1)).filter fun y => lt y.1 x.1)) := by
     show GOwn _ _ _ _ _ _
     rw [filter_yes hlt hl]; exact ho'
    have HB2 : Hid (Below w.heap.size w w') := (below_drewN HB.out _).trans (hb'.mono (by omega))
    have HX2 : Hid (Bx w' w.heap.size [.string x.1, .string x.2.1, .bool x.2.2]) := (HX.out.below (below_drewN (belowRefl wr) _)).belowB hb' (by omega)
    clear ho' hb' hl
    go_wp2
    go_roundw
    case rel => exact ⟨k + 1, by omega, by go_num, HO2, HX2, HB2⟩
    case measure => simp [intOf]; omega
  ·have hlt' : ¬ (k : Int) < (xs.length : Int) := by omega
   have x0 := HX.out.c0
   have x1 := HX.out.c1
   have x2 := HX.out.c2
   have ho := HO.out
   rw [List.take_of_length_le (by omega)] at ho
   have HO1 := hide ho
   clear ho
   have hlen : (xs.filter fun y => lt y.1 x.1).length ≤ 1000000 := Nat.le_trans (List.length_filter_le _ _) hn
   have hsz : w.heap.size + 1 ≤ wr.heap.size := HX.out.lt
   go_wp2_with (at_builtin; refine wpAppW rfl _ _ rfl x rfl HO1.out rfl (Nat.le_trans hlen (by omega)) hsz ?_)
   intro v' w' ho' hb'
   have HO2 : Hid (GOwn encW 42 w' (w.heap.size + 1) v' (xs.filter (fun y => lt y.1 x.1) ++ [x])) := ho'
   have HB2 : Hid (Below w.heap.size w w') := HB.out.trans (hb'.mono (by omega))
   have HX2 : Hid (Bx w' w.heap.size [.string x.1, .string x.2.1, .bool x.2.2]) := HX.out.belowB hb' (by omega)
   clear ho' hb' x0 x1 x2 HO1 HO HB HX hsz
   go_wp2
   go_loopw [5, 7] (fun v t wr => ∃ k : Nat, k ≤ xs.length ∧ t = .int .i64 k ∧ Hid (GOwn encW 42 wr (w.heap.size + 1) v (xs.filter (fun y => lt y.1 x.1) ++ [x] ++ (xs.take k).filter fun y => lt x.1 y.1)) ∧ Hid (Bx wr w.heap.size [.string x.1, .string x.2.1, .bool x.2.2]) ∧ Hid (Below w.heap.size w wr)) (fun _ t _ => xs.length - (intOf t).toNat)
   case atStart =>
    refine ⟨0, Nat.zero_le _, rfl, ?_, HX2, HB2⟩
    show GOwn _ _ _ _ _ _
    simpa using HO2.out
   case round =>
    clear HX2 HB2 HO2
    obtain ⟨m, hm, rfl, HO, HX, HB⟩ := hrel
    by_cases hltm : m < xs.length
    ·have hltm' : (m : Int) < (xs.length : Int) := by omega
     have hm0 : (0 : Int) ≤ (m : Int) := by omega
     obtain ⟨b, off, rfl, hbl, hc⟩ := (HP.out.below HB.out) (by omega)
     have r0 := (wat hc m hltm).1
     have r1 := (wat hc m hltm).2.1
     have r2 := (wat hc m hltm).2.2
     clear hc
     have x0 := HX.out.c0
     cases hl : lt x.1 xs[m].1
     ·have hl' : (!(Op.bytesLess xs[m].1.toList x.1.toList || xs[m].1.toList == x.1.toList)) = false := (not_le _ _).trans hl
      have ho2 := HO.out
      rw [← filter_no (p := fun y => lt x.1 y.1) hltm hl] at ho2
      have HO2 := hide ho2
      clear ho2 hl
      go_wp2
      go_quiet (fail)
      go_wp2
      go_roundw
      case rel => exact ⟨m + 1, by omega, by go_num, HO2, HX.out.below (below_drewN (belowRefl wr) _), below_drewN HB.out _⟩
      case measure => simp [intOf]; omega
     ·have hl' : (!(Op.bytesLess xs[m].1.toList x.1.toList || xs[m].1.toList == x.1.toList)) = true := (not_le _ _).trans hl
      have hlen2 : (xs.filter (fun y => lt y.1 x.1) ++ [x] ++ (xs.take m).filter fun y => lt x.1 y.1).length ≤ 3000000 := by
       have h1 : ((xs.take m).filter fun y => lt x.1 y.1).length ≤ 1000000 := Nat.le_trans (List.length_filter_le _ _) (by rw [List.length_take]; omega)
       simp only [List.length_append, List.length_cons, List.length_nil]
       omega
      have hsz : w.heap.size + 1 ≤ wr.heap.size := HX.out.lt
      go_wp2
      go_quiet (fail)
      go_wp2_with (at_builtin; refine wpAppW rfl _ _ rfl xs[m] rfl (HO.out.drewN _) rfl (by omega) hsz ?_)
      intro v' w' ho' hb'
      have HO2 : Hid (GOwn encW 42 w' (w.heap.size + 1) v' (xs.filter (fun y => lt y.1 x.1) ++ [x] ++ (xs.take (m + 1)).filter fun y => lt x.1 y.1)) := by
       show GOwn _ _ _ _ _ _
       rw [filter_yes hltm hl]; simpa [List.append_assoc] using ho'
      have HB2 : Hid (Below w.heap.size w w') := (below_drewN HB.out _).trans (hb'.mono (by omega))
      have HX2 : Hid (Bx w' w.heap.size [.string x.1, .string x.2.1, .bool x.2.2]) := (HX.out.below (below_drewN (belowRefl wr) _)).belowB hb' (by omega)
      clear ho' hb' hl
      go_wp2
      go_roundw
      case rel => exact ⟨m + 1, by omega, by go_num, HO2, HX2, HB2⟩
      case measure => simp [intOf]; omega
    ·have hltm' : ¬ (m : Int) < (xs.length : Int) := by omega
     have ho := HO.out
     rw [List.take_of_length_le (by omega)] at ho
     change GOwn encW 42 wr (w.heap.size + 1) _ (putS xs x) at ho
     obtain ⟨a1, c1, rfl, _⟩ := ho.row
     have HO1 : Hid (GOwn encW 42 wr w.heap.size (.slice a1 (putS xs x).length c1) (putS xs x)) := ho.mono (by omega)
     clear ho
     go_wp2
     go_ret
     exact ⟨a1, c1, rfl, HO1.out, HB.out⟩
end Go.Proofs.YtnljmdodpffmoaaGreat

namespace Go.Proofs.YtnljmdodpffmoaaGreat
open KM
def WFit (xs : List Wt) : Prop := ∀ x ∈ xs, x.1.size ≤ 1048576 ∧ x.2.1.size ≤ 1048576
def RFit (xs : List Rg) : Prop := ∀ x ∈ xs, x.1.size ≤ 1048576 ∧ x.2.size ≤ 1048576
end Go.Proofs.YtnljmdodpffmoaaGreat

namespace Go.Proofs.YtnljmdodpffmoaaGreat
open Go.RowKit
open KM
attribute [local go_sem ↓] Go.wp_at_zero Go.wp_at_succ

theorem less_trans : ∀ a b c : List UInt8, Op.bytesLess a b = true → Op.bytesLess b c = true → Op.bytesLess a c = true
 | [], [], _, h, _ => by simp [Op.bytesLess] at h
 | [], _ :: _, [], _, h => by simp [Op.bytesLess] at h
 | [], _ :: _, _ :: _, _, _ => by simp [Op.bytesLess]
 | _ :: _, [], _, h, _ => by simp [Op.bytesLess] at h
 | _ :: _, _ :: _, [], _, h => by simp [Op.bytesLess] at h
 | x :: a, y :: b, z :: c, h, h2 => by
  simp only [Op.bytesLess, Bool.or_eq_true, decide_eq_true_eq, Bool.and_eq_true, beq_iff_eq] at h h2 ⊢
  rcases h with h | ⟨rfl, h⟩
  ·have h' := UInt8.lt_iff_toNat_lt.1 h
   rcases h2 with h2 | ⟨rfl, _⟩
   ·have h2' := UInt8.lt_iff_toNat_lt.1 h2
    exact Or.inl (UInt8.lt_iff_toNat_lt.2 (by omega))
   ·exact Or.inl h
  ·rcases h2 with h2 | ⟨rfl, h2⟩
   ·exact Or.inl h2
   ·exact Or.inr ⟨rfl, less_trans a b c h h2⟩
theorem lt_trans' {a b c : ByteArray} (h : lt a b = true) (h2 : lt b c = true) : lt a c = true := less_trans _ _ _ h h2
theorem lt_asymm' {a b : ByteArray} (h : lt a b = true) : lt b a = false := less_asymm _ _ h
theorem lt_irrefl' (a : ByteArray) : lt a a = false := less_irrefl _

def WtD (x : Wt) : Prop := writeB x = true ∧ x.1.size ≤ 3 ∧ x.2.1.size ≤ 3
def Asc (xs : List Wt) : Prop := xs.Pairwise fun a b => lt a.1 b.1 = true
def WsD (xs : List Wt) : Prop := (∀ x ∈ xs, WtD x) ∧ Asc xs

theorem asc_put {xs : List Wt} (h : Asc xs) (x : Wt) : Asc (putS xs x) := by
 unfold Asc putS
 rw [List.append_assoc, List.pairwise_append, List.singleton_append, List.pairwise_cons]
 refine ⟨List.Pairwise.filter _ h, ⟨?_, List.Pairwise.filter _ h⟩, ?_⟩
 ·intro y hy; exact (List.mem_filter.1 hy).2
 ·intro y hy z hz
  have h1 := (List.mem_filter.1 hy).2
  rcases List.mem_cons.1 hz with rfl | hz
  ·exact h1
  ·exact lt_trans' h1 (List.mem_filter.1 hz).2
theorem wsd_put {xs : List Wt} (h : WsD xs) {x : Wt} (hx : WtD x) : WsD (putS xs x) := by
 refine ⟨fun y hy => ?_, asc_put h.2 x⟩
 unfold putS at hy
 simp only [List.mem_append, List.mem_filter, List.mem_cons, List.not_mem_nil, or_false] at hy
 rcases hy with (hy | rfl) | hy
 ·exact h.1 y hy.1
 ·exact hx
 ·exact h.1 y hy.1
theorem len_put (xs : List Wt) (x : Wt) : (putS xs x).length ≤ xs.length + 1 := by
 have h : (xs.filter fun y => lt y.1 x.1).length + (xs.filter fun y => lt x.1 y.1).length ≤ xs.length := by
  induction xs with
  | nil => simp
  | cons y ys ih =>
   simp only [List.filter_cons, List.length_cons]
   cases h1 : lt y.1 x.1
   ·cases h2 : lt x.1 y.1 <;> simp <;> omega
   ·rw [lt_asymm' h1]; simp; omega
 unfold putS
 simp only [List.length_append, List.length_cons, List.length_nil]
 omega
theorem wsd_nil : WsD [] := ⟨by simp, List.Pairwise.nil⟩
theorem WsD.fit {xs : List Wt} (h : WsD xs) : WFit xs := fun x hx => ⟨by have := (h.1 x hx).2.1; omega, by have := (h.1 x hx).2.2; omega⟩

def valL : List ByteArray := [⟨#[111, 110, 101]⟩, ⟨#[116, 119, 111]⟩, ⟨#[]⟩, ⟨#[120, 0]⟩]
theorem valL_ok : ∀ s ∈ valL, s.size ≤ 3 := by
 intro s hs
 simp only [valL, List.mem_cons, List.not_mem_nil, or_false] at hs
 rcases hs with rfl | rfl | rfl | rfl <;> decide
theorem wtd_no {k v : ByteArray} (hk : KeyD k) (hv : v.size ≤ 3) : WtD (k, v, false) := ⟨by unfold writeB; simp [hk.1]; omega, hk.2, hv⟩
theorem wtd_gone {k : ByteArray} (hk : KeyD k) : WtD (k, ⟨#[]⟩, true) := ⟨by unfold writeB; simp [hk.1]; decide, hk.2, by show (0 : Nat) ≤ 3; omega⟩

set_option maxRecDepth 100000 in
set_option maxHeartbeats 1000000 in
theorem drWrite (g len cap : Nat) (a : Option Addr) (w : World) (hc : CurI w g a len cap) :
  Calls Tryz.prog 87 #[.pointer (some ⟨g, 0, none⟩)] w fun e w' => ∃ x : Wt, WtD x ∧ e = .returned (.agg #[.string x.1, .string x.2.1, .bool x.2.2]) ∧ Dn w w' g a len cap := by
 have HC : Hid (CurI w g a len cap) := hc
 have hgl : g < w.heap.size := hc.lt
 have hne : w.heap.size ≠ g := Nat.ne_of_gt hc.lt
 clear hc
 go_enter Tryz.func87, Tryz.ntmps87
 go_wp2_with fail
 refine (drKey g len cap a _ (HC.out.alloc _)).mono ?_
 rintro e w1 ⟨k, hk, rfl, d1⟩
 have D1 : Hid (Dn w w1 g a len cap) := ((Dn.start HC.out).alloc _).step d1
 have B1 : Hid (Bx w1 w.heap.size [.string ⟨#[]⟩, .string ⟨#[]⟩, .bool false]) := (Bx.new w [.string ⟨#[]⟩, .string ⟨#[]⟩, .bool false] 42).keptD d1 hne
 have HK : Hid (KeyD k) := hk
 have s1 : w.heap.size < w1.heap.size := B1.out.lt
 clear d1 hk
 go_wp2_with fail
 refine (drPickN g len cap a valL 4 w1.heap.size 4 rfl (by omega) (by omega) _ (D1.out.c.alloc _) (by omega) (Bx.new w1 (valL.map Value.string) 9)).mono ?_
 rintro e w2 ⟨v, hv, rfl, d2⟩
 have D2 : Hid (Dn w w2 g a len cap) := (D1.out.alloc _).step d2
 have B2 : Hid (Bx w2 w.heap.size [.string ⟨#[]⟩, .string ⟨#[]⟩, .bool false]) := (B1.out.alloc _).keptD d2 hne
 have HV : Hid (v.size ≤ 3) := valL_ok v hv
 have s2 : w.heap.size < w2.heap.size := B2.out.lt
 clear d2 hv
 have X2 : Hid (Bx (w2.alloc (.cells #[.string k, .string v, .bool false] 42)) w2.heap.size [.string k, .string v, .bool false]) := Bx.new w2 _ 42
 go_wp2_with fail
 refine (drOnce g len cap a 5 (by omega) (by omega) _ (D2.out.c.alloc _)).mono ?_
 rintro e w3 ⟨b, rfl, d3⟩
 have D3 : Hid (Dn w w3 g a len cap) := (D2.out.alloc _).step d3
 have B3 : Hid (Bx w3 w.heap.size [.string ⟨#[]⟩, .string ⟨#[]⟩, .bool false]) := (B2.out.alloc _).keptD d3 hne
 have X3 : Hid (Bx w3 w2.heap.size [.string k, .string v, .bool false]) := X2.out.keptD d3 (by omega)
 clear d3 X2 B1 B2
 have c0 := B3.out.c0
 have c1 := B3.out.c1
 have c2 := B3.out.c2
 have fz := B3.out.fz
 have x0 := X3.out.c0
 have x1 := X3.out.c1
 have x2 := X3.out.c2
 have xf := X3.out.fz
 cases b
 ·go_wp2
  have BF := ((B3.out.set 0 (.string k)).set 1 (.string v)).set 2 (.bool false)
  have e0 := BF.c0
  have e1 := BF.c1
  have e2 := BF.c2
  exact bodyPost_ret (v := .agg #[.string k, .string v, .bool false]) (by simp [results, Tryz.results87, go_sem, e0, e1, e2]) rfl ⟨(k, v, false), wtd_no HK.out HV.out, rfl, ((D3.out.set (Nat.le_refl _) _).set (Nat.le_refl _) _).set (Nat.le_refl _) _⟩
 ·have hX : w2.heap.size ≠ w.heap.size := by omega
  go_wp2
  have BF := ((((B3.out.setO (p := ⟨w2.heap.size, 2, none⟩) (by omega) (.bool true)).setO (p := ⟨w2.heap.size, 1, none⟩) (by omega) (.string ⟨#[]⟩)).set 0 (.string k)).set 1 (.string ⟨#[]⟩)).set 2 (.bool true)
  have e0 := BF.c0
  have e1 := BF.c1
  have e2 := BF.c2
  exact bodyPost_ret (v := .agg #[.string k, .string ⟨#[]⟩, .bool true]) (by simp [results, Tryz.results87, go_sem, e0, e1, e2]) rfl ⟨(k, ⟨#[]⟩, true), wtd_gone HK.out, rfl, ((((D3.out.set (p := ⟨w2.heap.size, 2, none⟩) (by show _ ≤ w2.heap.size; omega) _).set (p := ⟨w2.heap.size, 1, none⟩) (by show _ ≤ w2.heap.size; omega) _).set (Nat.le_refl _) _).set (Nat.le_refl _) _).set (Nat.le_refl _) _⟩

set_option maxRecDepth 100000 in
set_option maxHeartbeats 1000000 in
theorem drWrites (g len cap : Nat) (a : Option Addr) (w : World) (hc : CurI w g a len cap) :
  Calls Tryz.prog 47 #[.pointer (some ⟨g, 0, none⟩)] w fun e w' => ∃ (xs : List Wt) (a1 : Option Addr) (c1 : Nat), WsD xs ∧ xs.length ≤ 3 ∧ e = .returned (.slice a1 xs.length c1) ∧ GOwn encW 42 w' w.heap.size (.slice a1 xs.length c1) xs ∧ Dn w w' g a len cap := by
 have HC : Hid (CurI w g a len cap) := hc
 have hgl : g < w.heap.size := hc.lt
 clear hc
 go_enter Tryz.func47, Tryz.ntmps47
 go_wp2
 go_loopw [3, 4] (fun v t wr => ∃ (k : Nat) (xs : List Wt) (a1 : Option Addr) (c1 : Nat), k ≤ 3 ∧ t = .int .i64 k ∧ v = .slice a1 xs.length c1 ∧ xs.length ≤ k ∧ Hid (WsD xs) ∧ Hid (GOwn encW 42 wr w.heap.size (.slice a1 xs.length c1) xs) ∧ Hid (Dn w wr g a len cap)) (fun _ t _ => 4 - (intOf t).toNat)
 case atStart => exact ⟨0, [], _, _, by omega, rfl, rfl, Nat.le_refl _, wsd_nil, GOwn.empty _ _ (Nat.le_refl _), (Dn.start HC.out).alloc _⟩
 case round =>
  obtain ⟨k, xs, a1, c1, hk, rfl, rfl, hxl, HS, HO, HD⟩ := hrel
  go_wp2_with fail
  refine (drBelow g len cap a 4 (by omega) (by omega) _ HD.out.c).mono ?_
  rintro e w1 ⟨n, hn, rfl, d1⟩
  have D1 : Hid (Dn w w1 g a len cap) := HD.out.step d1
  have O1 : Hid (GOwn encW 42 w1 w.heap.size (.slice a1 xs.length c1) xs) := HO.out.keptD d1 hgl
  clear d1
  by_cases hlt : k < n
  ·have hlt' : (k : Int) < (n : Int) := by omega
   go_wp2_with fail
   refine (drWrite g len cap a _ D1.out.c).mono ?_
   rintro e w2 ⟨x, hx, rfl, d2⟩
   have D2 : Hid (Dn w w2 g a len cap) := D1.out.step d2
   have O2 : Hid (GOwn encW 42 w2 w.heap.size (.slice a1 xs.length c1) xs) := O1.out.keptD d2 hgl
   have HX : Hid (WtD x) := hx
   clear d2 hx
   go_wp2_with fail
   refine (sput xs x a1 c1 (by omega) _ O2.out.grow).mono ?_
   rintro e w3 ⟨a2, c2, rfl, ho3, hb3⟩
   have O3 : Hid (GOwn encW 42 w3 w.heap.size (.slice a2 (putS xs x).length c2) (putS xs x)) := ho3.mono D2.out.size
   have D3 : Hid (Dn w w3 g a len cap) := D2.out.below hb3
   have HS2 : Hid (WsD (putS xs x)) := wsd_put HS.out HX.out
   have hl2 : (putS xs x).length ≤ k + 1 := Nat.le_trans (len_put xs x) (by omega)
   clear ho3 hb3
   go_wp2
   go_roundw
   case rel => exact ⟨k + 1, _, a2, c2, by omega, by go_num, rfl, hl2, HS2, O3, D3⟩
   case measure => simp [intOf]; omega
  ·have hlt' : ¬ (k : Int) < (n : Int) := by omega
   go_wp2
   go_ret
   exact ⟨xs, a1, c1, HS.out, by omega, rfl, O1.out, D1.out⟩

end Go.Proofs.YtnljmdodpffmoaaGreat
