/- What the drawing functions of the specification do to their cursor. -/
import Derived.Test.YtekjpoenbcnhdaaGreatPa03
import Derived.Test.YtekjpoenbcnhdaaGreatPa06
import Derived.Deep.QuietTactic
import Derived.BigQuiet
import Derived.Deep.RegionHeld3
import Derived.Deep.DrawnRows
namespace Go.Proofs.YtekjpoenbcnhdaaGreat
open Go.RowKit
attribute [local go_sem ↓] Go.wp_at_zero Go.wp_at_succ

def CodeOk (w : World) (a : Option Addr) (len g : Nat) : Prop :=
 0 < len → ∃ b off, a = some ⟨b, off, none⟩ ∧ b < w.heap.size ∧ b ≠ g ∧ ∀ i, i < len → ∃ z : Int, 0 ≤ z ∧ z ≤ 255 ∧ w.cell? ⟨b, off + i, none⟩ = some (.int .u8 z)

structure Cur (w : World) (g : Nat) (a : Option Addr) (len cap : Nat) (i h : Int) : Prop where
 c0 : w.cell? ⟨g, 0, none⟩ = some (.slice a len cap)
 c1 : w.cell? ⟨g, 1, none⟩ = some (.int .i64 i)
 c2 : w.cell? ⟨g, 2, none⟩ = some (.int .i64 h)
 free : ∀ j, w.frozen? ⟨g, j, none⟩ = false
 i0 : 0 ≤ i
 i1 : i ≤ (len : Int)

theorem and_mask (x : Int) (m : Nat) (hm : m < 9223372036854775808) : 0 ≤ bits .and .i64 x (m : Int) ∧ bits .and .i64 x (m : Int) ≤ (m : Int) := by
 have e : (BitVec.ofInt 64 (m : Int)).toNat = m := by
  rw [BitVec.ofInt_natCast, BitVec.toNat_ofNat]; exact Nat.mod_eq_of_lt (by omega)
 have h : ((BitVec.ofInt 64 x &&& BitVec.ofInt 64 (m : Int)).toNat) ≤ m := by
  rw [BitVec.toNat_and, e]; exact Nat.and_le_right
 show 0 ≤ IntKind.i64.wrap ((BitVec.ofInt 64 x &&& BitVec.ofInt 64 (m : Int)).toNat : Int) ∧ IntKind.i64.wrap ((BitVec.ofInt 64 x &&& BitVec.ofInt 64 (m : Int)).toNat : Int) ≤ (m : Int)
 generalize (BitVec.ofInt 64 x &&& BitVec.ofInt 64 (m : Int)).toNat = y at h
 rw [IntKind.wrap_i64]
 omega

theorem and255 (x : Int) : 0 ≤ bits .and .i64 x 255 ∧ bits .and .i64 x 255 ≤ 255 := and_mask x 255 (by omega)

theorem addr_ne (g : Nat) {i k : Nat} (h : i ≠ k) : (⟨g, i, none⟩ : Addr) ≠ ⟨g, k, none⟩ := fun e => h (by cases e; rfl)

theorem CodeOk.grown {w w' : World} {a : Option Addr} {len g : Nat} (h : CodeOk w a len g) (hg : w.grownBy w' (some g)) : CodeOk w' a len g := fun hl => by
 obtain ⟨b, off, ha, hb, hne, hz⟩ := h hl
 refine ⟨b, off, ha, Nat.lt_of_lt_of_le hb hg.size, hne, fun i hi => ?_⟩
 obtain ⟨z, h0, h1, hc⟩ := hz i hi
 exact ⟨z, h0, h1, (World.cell?_of_block (w := w) (a := ⟨b, off + i, none⟩) (hg.block b hb (fun e => hne (Option.some.inj e)))).trans hc⟩

theorem Cur.setH {w : World} {g len cap : Nat} {a : Option Addr} {i h : Int} (c : Cur w g a len cap i h) (H : Int) : Cur (w.setCell ⟨g, 2, none⟩ (.int .i64 H)) g a len cap i H :=
 ⟨by rw [World.cell?_setCell_other _ _ _ _ (addr_ne g (show 2 ≠ 0 by omega))]; exact c.c0,
  by rw [World.cell?_setCell_other _ _ _ _ (addr_ne g (show 2 ≠ 1 by omega))]; exact c.c1,
  World.cell?_setCell_same _ _ _ c.c2, fun j => by rw [World.frozen?_setCell]; exact c.free j, c.i0, c.i1⟩

theorem Cur.setI {w : World} {g len cap : Nat} {a : Option Addr} {i h : Int} (c : Cur w g a len cap i h) (I : Int) (h0 : 0 ≤ I) (h1 : I ≤ (len : Int)) : Cur (w.setCell ⟨g, 1, none⟩ (.int .i64 I)) g a len cap I h :=
 ⟨by rw [World.cell?_setCell_other _ _ _ _ (addr_ne g (show 1 ≠ 0 by omega))]; exact c.c0,
  World.cell?_setCell_same _ _ _ c.c1,
  by rw [World.cell?_setCell_other _ _ _ _ (addr_ne g (show 1 ≠ 2 by omega))]; exact c.c2,
  fun j => by rw [World.frozen?_setCell]; exact c.free j, h0, h1⟩

theorem Cur.drewN {w : World} {g len cap : Nat} {a : Option Addr} {i h : Int} (c : Cur w g a len cap i h) (n : Nat) : Cur (w.drewN n) g a len cap i h := ⟨c.c0, c.c1, c.c2, c.free, c.i0, c.i1⟩

set_option maxRecDepth 100000 in
set_option maxHeartbeats 1000000 in
theorem byte26 (g len cap : Nat) (a : Option Addr) (i h : Int) (hl : len ≤ 1048576) (w : World) (hc : Cur w g a len cap i h) (hk : CodeOk w a len g) :
  Calls Tryz.prog 54 #[.pointer (some ⟨g, 0, none⟩)] w fun e w' => ∃ x i' h' : Int, e = .returned (.int .i64 x) ∧ 0 ≤ x ∧ x ≤ 255 ∧ Cur w' g a len cap i' h' ∧ w.grownBy w' (some g) := by
 obtain ⟨n, rfl⟩ := Int.eq_ofNat_of_zero_le hc.i0
 have HC : Hid (Cur w g a len cap n h) := hc
 have HK : Hid (CodeOk w a len g) := hk
 have hn : n ≤ len := by have := hc.i1; omega
 have k0 := hc.c0
 have k1 := hc.c1
 have k2 := hc.c2
 have f0 := hc.free
 clear hc hk
 go_enter Tryz.func54, Tryz.ntmps54
 go_wp2
 generalize wrap64 (wrap64 (h * 6364136223846793005) + 1442695040888963407) = H
 have hc1 := HC.out.setH H
 have hg1 := grown_set w g 2 (.int .i64 H)
 have hk1 := HK.out.grown hg1
 generalize w.setCell ⟨g, 2, none⟩ (.int .i64 H) = W1 at *
 have HC1 : Hid (Cur W1 g a len cap n H) := hc1
 have HG1 : Hid (w.grownBy W1 (some g)) := hg1
 have HK1 : Hid (CodeOk W1 a len g) := hk1
 clear k0 k1 k2 f0
 have k0 := hc1.c0
 have k1 := hc1.c1
 have k2 := hc1.c2
 have f0 := hc1.free
 clear hc1 hg1 hk1
 by_cases hlt : n < len
 ·have hlt' : (n : Int) < (len : Int) := by omega
  have hn0 : (0 : Int) ≤ (n : Int) := by omega
  obtain ⟨b, off, rfl, hbb, hbne, hz⟩ := HK1.out (by omega)
  obtain ⟨z, z0, z1, hcz⟩ := hz n hlt
  clear hz
  go_quiet (fail)
  go_wp2
  go_quiet (fail)
  go_wp2
  go_quiet (fail)
  go_wp2
  go_ret
  have hs := HC1.out.setI ((n : Int) + 1) (by omega) (by omega)
  have hg := grown_trans HG1.out (grown_set W1 g 1 (.int .i64 ((n : Int) + 1)))
  exact ⟨_, (n : Int) + 1, H, rfl, (and255 _).1, (and255 _).2, ⟨hs.c0, hs.c1, hs.c2, hs.free, hs.i0, hs.i1⟩, ⟨hg.os, hg.tape, hg.output, hg.size, hg.block⟩⟩
 ·have hlt' : decide ((n : Int) < (len : Int)) = false := by simp; omega
  go_quiet (fail)
  go_wp2
  go_quiet (fail)
  go_wp2
  go_ret
  have hs := HC1.out
  have hg := HG1.out
  exact ⟨_, (n : Int), H, rfl, (and255 _).1, (and255 _).2, ⟨hs.c0, hs.c1, hs.c2, hs.free, hs.i0, hs.i1⟩, ⟨hg.os, hg.tape, hg.output, hg.size, hg.block⟩⟩

def CurOk (w : World) (g : Nat) (a : Option Addr) (len cap : Nat) : Prop := ∃ i h, Cur w g a len cap i h ∧ CodeOk w a len g

theorem CurOk.below {w w' : World} {g len cap : Nat} {a : Option Addr} (h : CurOk w g a len cap) (hb : Below w.heap.size w w') (hg : g < w.heap.size) : CurOk w' g a len cap := by
 obtain ⟨i, x, c, k⟩ := h
 refine ⟨i, x, ⟨(hb.cell (p := ⟨g, 0, none⟩) hg).trans c.c0, (hb.cell (p := ⟨g, 1, none⟩) hg).trans c.c1, (hb.cell (p := ⟨g, 2, none⟩) hg).trans c.c2, fun j => (hb.frozen (p := ⟨g, j, none⟩) hg).trans (c.free j), c.i0, c.i1⟩, fun hl => ?_⟩
 obtain ⟨b, off, ha, hb1, hne, hz⟩ := k hl
 refine ⟨b, off, ha, Nat.lt_of_lt_of_le hb1 hb.size, hne, fun j hj => ?_⟩
 obtain ⟨z, h0, h1, hc⟩ := hz j hj
 exact ⟨z, h0, h1, (hb.cell (p := ⟨b, off + j, none⟩) hb1).trans hc⟩

theorem byteOk (g len cap : Nat) (a : Option Addr) (hl : len ≤ 1048576) (w : World) (hc : CurOk w g a len cap) :
  Calls Tryz.prog 54 #[.pointer (some ⟨g, 0, none⟩)] w fun e w' => ∃ x : Nat, x ≤ 255 ∧ e = .returned (.int .i64 (x : Int)) ∧ CurOk w' g a len cap ∧ w.grownBy w' (some g) := by
 obtain ⟨i, h, c, k⟩ := hc
 refine (byte26 g len cap a i h hl w c k).mono ?_
 rintro e w' ⟨x, i', h', rfl, h0, h1, hc, hg⟩
 obtain ⟨n, rfl⟩ := Int.eq_ofNat_of_zero_le h0
 exact ⟨n, by omega, rfl, ⟨i', h', hc, k.grown hg⟩, hg⟩

set_option maxRecDepth 100000 in
set_option maxHeartbeats 1000000 in
theorem below21 (g len cap : Nat) (a : Option Addr) (n : Nat) (h0 : 0 < n) (hn : n ≤ 1000000000) (hl : len ≤ 1048576) (w : World) (hc : CurOk w g a len cap) :
  Calls Tryz.prog 19 #[.pointer (some ⟨g, 0, none⟩), .int .i64 (n : Int)] w fun e w' => ∃ x : Nat, x < n ∧ e = .returned (.int .i64 (x : Int)) ∧ CurOk w' g a len cap ∧ w.grownBy w' (some g) := by
 have HC : Hid (CurOk w g a len cap) := hc
 clear hc
 by_cases hs : n ≤ 256
 ·go_enter Tryz.func19, Tryz.ntmps19
  go_wp2_with (go_at_call 54; refine (byteOk g len cap a hl _ HC.out).mono ?_; rintro e w1 ⟨x, hx, rfl, hc1, hg1⟩)
  go_ret
  exact ⟨x % n, Nat.mod_lt _ h0, by go_num, hc1, hg1⟩
 ·have hs' : ¬ (n : Int) ≤ 256 := by omega
  go_enter Tryz.func19, Tryz.ntmps19
  go_wp2_with fail
  refine (byteOk g len cap a hl _ HC.out).mono ?_
  rintro e w1 ⟨x, hx, rfl, hc1, hg1⟩
  have HC1 : Hid (CurOk w1 g a len cap) := hc1
  have HG1 : Hid (w.grownBy w1 (some g)) := hg1
  clear hc1 hg1
  go_wp2_with fail
  refine (byteOk g len cap a hl _ HC1.out).mono ?_
  rintro e w2 ⟨y, hy, rfl, hc2, hg2⟩
  have HC2 : Hid (CurOk w2 g a len cap) := hc2
  have HG2 : Hid (w.grownBy w2 (some g)) := grown_trans HG1.out hg2
  clear hc2 hg2
  go_wp2_with fail
  refine (byteOk g len cap a hl _ HC2.out).mono ?_
  rintro e w3 ⟨z, hz, rfl, hc3, hg3⟩
  have HC3 : Hid (CurOk w3 g a len cap) := hc3
  have HG3 : Hid (w.grownBy w3 (some g)) := grown_trans HG2.out hg3
  clear hc3 hg3
  go_wp2_with fail
  refine (byteOk g len cap a hl _ HC3.out).mono ?_
  rintro e w4 ⟨u, hu, rfl, hc4, hg4⟩
  have HC4 : Hid (CurOk w4 g a len cap) := hc4
  have HG4 : Hid (w.grownBy w4 (some g)) := grown_trans HG3.out hg4
  clear hc4 hg4
  go_wp2
  go_ret
  exact ⟨(x * 16777216 + y * 65536 + z * 256 + u) % n, Nat.mod_lt _ h0, by go_num, HC4.out, HG4.out⟩

def CodeRow (w : World) (a : Option Addr) (len : Nat) : Prop :=
 0 < len → ∃ b off, a = some ⟨b, off, none⟩ ∧ b < w.heap.size ∧ ∀ i, i < len → ∃ z : Int, 0 ≤ z ∧ z ≤ 255 ∧ w.cell? ⟨b, off + i, none⟩ = some (.int .u8 z)

theorem CodeRow.below {w w' : World} {a : Option Addr} {len : Nat} (h : CodeRow w a len) (hb : Below w.heap.size w w') : CodeRow w' a len := fun hl => by
 obtain ⟨b, off, ha, hb1, hz⟩ := h hl
 refine ⟨b, off, ha, Nat.lt_of_lt_of_le hb1 hb.size, fun j hj => ?_⟩
 obtain ⟨z, h0, h1, hc⟩ := hz j hj
 exact ⟨z, h0, h1, (hb.cell (p := ⟨b, off + j, none⟩) hb1).trans hc⟩

theorem curNew (w : World) (a : Option Addr) (len cap : Nat) (H : Int) (hr : CodeRow w a len) : CurOk (w.alloc (.cells #[.slice a len cap, .int .i64 0, .int .i64 H] 68)) w.heap.size a len cap := by
 refine ⟨0, H, ⟨?_, ?_, ?_, ?_, by omega, by omega⟩, fun hl => ?_⟩
 ·exact World.cell?_alloc_mark w _ 68 (0, 0) 0
 ·exact World.cell?_alloc_mark w _ 68 (0, 0) 1
 ·exact World.cell?_alloc_mark w _ 68 (0, 0) 2
 ·intro j
  rw [show (w.alloc (.cells #[.slice a len cap, .int .i64 0, .int .i64 H] 68)).frozen? ⟨w.heap.size, j, none⟩ = _ from World.frozen?_alloc_mark w _ 68 0 0 j]
  simp
 ·obtain ⟨b, off, ha, hb1, hz⟩ := hr hl
  refine ⟨b, off, ha, by simp; omega, by omega, fun j hj => ?_⟩
  obtain ⟨z, h0, h1, hc⟩ := hz j hj
  exact ⟨z, h0, h1, (World.cell?_alloc_past _ _ _ (by omega)).trans hc⟩

set_option maxRecDepth 100000 in
set_option maxHeartbeats 1000000 in
theorem new16 (len cap : Nat) (a : Option Addr) (hl : len ≤ 1048576) (w : World) (hr : CodeRow w a len) :
  Calls Tryz.prog 18 #[.slice a len cap] w fun e w' => e = .returned (.pointer (some ⟨w.heap.size, 0, none⟩)) ∧ CurOk w' w.heap.size a len cap ∧ Below w.heap.size w w' ∧ w.heap.size < w'.heap.size := by
 have HR : Hid (CodeRow w a len) := hr
 clear hr
 go_enter Tryz.func18, Tryz.ntmps18
 go_wp2
 go_loop [3, 4] (fun t3 t4 => ∃ (k : Nat) (H : Int), k ≤ len ∧ t4 = .int .i64 (k : Int) ∧ t3 = .int .i64 H) (fun _ t4 => len - (intOf t4).toNat)
 case atStart => exact ⟨0, _, Nat.zero_le _, rfl, rfl⟩
 case round =>
  obtain ⟨k, H, hk, rfl, rfl⟩ := hrel
  by_cases hlt : k < len
  ·have hlt' : (k : Int) < (len : Int) := by omega
   by_cases h4 : k < 4000
   ·have h4' : (k : Int) < 4000 := by omega
    have h0 : (0 : Int) ≤ (k : Int) := by omega
    obtain ⟨b, off, rfl, hbb, hz⟩ := HR.out (by omega)
    obtain ⟨z, z0, z1, hcz⟩ := hz k hlt
    clear hz
    go_wp2
    go_round
    case rel => exact ⟨k + 1, _, by omega, by go_num, rfl⟩
    case measure => simp [intOf]; omega
   ·have h4' : decide ((k : Int) < 4000) = false := by simp; omega
    go_wp2
    go_ret
    exact ⟨rfl, curNew w a len cap H HR.out, (Below.refl _ _).alloc (Nat.le_refl _) _, by simp⟩
  ·have hlt' : decide ((k : Int) < (len : Int)) = false := by simp; omega
   go_wp2
   go_ret
   exact ⟨rfl, curNew w a len cap H HR.out, (Below.refl _ _).alloc (Nat.le_refl _) _, by simp⟩

set_option maxHeartbeats 400000 in
theorem once19 (g len cap : Nat) (a : Option Addr) (n : Nat) (h0 : 0 < n) (hn : n ≤ 1000000000) (hl : len ≤ 1048576) (w : World) (hc : CurOk w g a len cap) :
  Calls Tryz.prog 24 #[.pointer (some ⟨g, 0, none⟩), .int .i64 (n : Int)] w fun e w' => ∃ b : Bool, e = .returned (.bool b) ∧ CurOk w' g a len cap ∧ w.grownBy w' (some g) := by
 have HC : Hid (CurOk w g a len cap) := hc
 clear hc
 go_enter Tryz.func24, Tryz.ntmps24
 go_wp2_with (go_at_call 19; refine (below21 g len cap a n h0 hn hl _ HC.out).mono ?_; rintro e w1 ⟨x, hx, rfl, hc1, hg1⟩)
 go_ret
 exact ⟨_, rfl, hc1, hg1⟩

set_option maxHeartbeats 400000 in
theorem pick24 (g len cap : Nat) (a : Option Addr) (g2 n c2 : Nat) (h0 : 0 < n) (hn : n ≤ 1000) (hl : len ≤ 1048576) (w : World) (hc : CurOk w g a len cap) (hne : g2 ≠ g) (hg2 : g2 < w.heap.size)
  (hcells : ∀ j, j < n → ∃ z : Int, -9223372036854775808 ≤ z ∧ z ≤ 9223372036854775807 ∧ w.cell? ⟨g2, j, none⟩ = some (.int .i64 z)) :
  Calls Tryz.prog 87 #[.pointer (some ⟨g, 0, none⟩), .slice (some ⟨g2, 0, none⟩) n c2] w fun e w' => ∃ z : Int, -9223372036854775808 ≤ z ∧ z ≤ 9223372036854775807 ∧ e = .returned (.int .i64 z) ∧ CurOk w' g a len cap ∧ w.grownBy w' (some g) := by
 have HC : Hid (CurOk w g a len cap) := hc
 have HZ : Hid (∀ j, j < n → ∃ z : Int, -9223372036854775808 ≤ z ∧ z ≤ 9223372036854775807 ∧ w.cell? ⟨g2, j, none⟩ = some (.int .i64 z)) := hcells
 clear hc hcells
 go_enter Tryz.func87, Tryz.ntmps87
 go_wp2_with fail
 refine (below21 g len cap a n h0 (by omega) hl _ HC.out).mono ?_
 rintro e w1 ⟨x, hx, rfl, hc1, hg1⟩
 have HC1 : Hid (CurOk w1 g a len cap) := hc1
 have HG1 : Hid (w.grownBy w1 (some g)) := hg1
 obtain ⟨z, z0, z1, hz⟩ := HZ.out x hx
 have hz1 : w1.cell? ⟨g2, x, none⟩ = some (.int .i64 z) := (World.cell?_of_block (w := w) (a := ⟨g2, x, none⟩) (hg1.block g2 hg2 (fun e => hne (Option.some.inj e)))).trans hz
 have Z0 : Hid (-9223372036854775808 ≤ z) := z0
 have Z1 : Hid (z ≤ 9223372036854775807) := z1
 clear hc1 hg1 hz z0 z1
 have hx' : (x : Int) < (n : Int) := by omega
 have hx0 : (0 : Int) ≤ (x : Int) := by omega
 go_wp2
 go_ret
 exact ⟨z, Z0.out, Z1.out, rfl, HC1.out, HG1.out⟩

theorem grown_alloc (w : World) (g : Nat) (o : Obj) : w.grownBy (w.alloc o) (some g) := ⟨rfl, rfl, rfl, by simp, fun j hj _ => Below.heap_alloc _ _ _ hj⟩

theorem CurOk.alloc {w : World} {g len cap : Nat} {a : Option Addr} (h : CurOk w g a len cap) (hg : g < w.heap.size) (o : Obj) : CurOk (w.alloc o) g a len cap :=
 h.below ((Below.refl _ w).alloc (Nat.le_refl _) o) hg

theorem grown_belowB {w w2 w3 : World} {g B : Nat} (h : w.grownBy w2 (some g)) (hb : Below B w2 w3) (hB : w.heap.size ≤ B) : w.grownBy w3 (some g) :=
 ⟨hb.os.trans h.os, hb.tape.trans h.tape, hb.output.trans h.output, Nat.le_trans h.size hb.size, fun j hj hne => (hb.block j (by omega)).trans (h.block j hj hne)⟩

theorem CurOk.belowB {w w' : World} {g len cap B : Nat} {a : Option Addr} (h : CurOk w g a len cap) (hb : Below B w w') (hg : g < B) (hcode : ∀ b off, a = some ⟨b, off, none⟩ → 0 < len → b < B) : CurOk w' g a len cap := by
 obtain ⟨i, x, c, k⟩ := h
 refine ⟨i, x, ⟨(hb.cell (p := ⟨g, 0, none⟩) hg).trans c.c0, (hb.cell (p := ⟨g, 1, none⟩) hg).trans c.c1, (hb.cell (p := ⟨g, 2, none⟩) hg).trans c.c2, fun j => (hb.frozen (p := ⟨g, j, none⟩) hg).trans (c.free j), c.i0, c.i1⟩, fun hl => ?_⟩
 obtain ⟨b, off, ha, hb1, hne, hz⟩ := k hl
 refine ⟨b, off, ha, Nat.lt_of_lt_of_le hb1 hb.size, hne, fun j hj => ?_⟩
 obtain ⟨z, h0, h1, hc⟩ := hz j hj
 exact ⟨z, h0, h1, (hb.cell (p := ⟨b, off + j, none⟩) (hcode b off ha hl)).trans hc⟩

theorem Own.kept {w w' : World} {base g : Nat} {v : Value} {l : List UInt8} (h : Own w base v l) (hg : w.grownBy w' (some g)) (hlt : g < base) : Own w' base v l :=
 World.ownsRow.kept h hg (by
  cases e : v.ownBlock with
  | none => exact Or.inl rfl
  | some k => right; intro e2; have := (World.ownsRow.lt h k e).1; have := Option.some.inj e2; omega)

set_option maxRecDepth 100000 in
set_option maxHeartbeats 1000000 in
theorem text22 (g len cap : Nat) (a : Option Addr) (n : Nat) (hn : n ≤ 5000) (hl : len ≤ 1048576) (w : World) (hc : CurOk w g a len cap) (hg : g < w.heap.size) (hcode : ∀ b off, a = some ⟨b, off, none⟩ → 0 < len → b < w.heap.size) :
  Calls Tryz.prog 63 #[.pointer (some ⟨g, 0, none⟩), .int .i64 (n : Int)] w fun e w' => ∃ s : ByteArray, s.size = n ∧ e = .returned (.string s) ∧ CurOk w' g a len cap ∧ w.grownBy w' (some g) := by
 have HC : Hid (CurOk w g a len cap) := hc
 have HK : Hid (∀ b off, a = some ⟨b, off, none⟩ → 0 < len → b < w.heap.size) := hcode
 clear hc hcode
 have hd : decide ((5000 : Int) < (n : Int)) = false := by simp; omega
 go_enter Tryz.func63, Tryz.ntmps63
 go_wp2
 go_loopw [5, 6] (fun v t wr => ∃ (k : Nat) (pre : List UInt8), k ≤ n ∧ t = .int .i64 (k : Int) ∧ Hid (pre.length = k) ∧ Hid (Own wr w.heap.size v pre) ∧ Hid (CurOk wr g a len cap) ∧ Hid (w.grownBy wr (some g))) (fun _ t _ => n - (intOf t).toNat)
 case atStart => exact ⟨0, [], Nat.zero_le _, rfl, rfl, Own.empty _ _ (Nat.le_refl _), HC.out.alloc hg _, grown_alloc w g _⟩
 case round =>
  obtain ⟨k, pre, hk, rfl, HL, HO, HC1, HG1⟩ := hrel
  by_cases hlt : k < n
  ·have hlt' : (k : Int) < (n : Int) := by omega
   go_wp2_with fail
   refine (byteOk g len cap a hl _ HC1.out).mono ?_
   rintro e w2 ⟨x, hx, rfl, hc2, hg2⟩
   have HC2 : Hid (CurOk w2 g a len cap) := hc2
   have HG2 : Hid (w.grownBy w2 (some g)) := grown_trans HG1.out hg2
   have hown2 := HO.out.kept hg2 hg
   have hsz2 : w.heap.size ≤ w2.heap.size := HG2.out.size
   have hlen : pre.length ≤ 5000 := by rw [HL.out]; omega
   clear hc2 hg2
   go_wp2_with (at_builtin; refine wpApp rfl _ _ rfl w2 [UInt8.ofNat x] rfl hown2 rfl (ofNatCell _ _ (by omega) (by omega)) (by simp; omega) (Below.refl _ _) hsz2 ?_)
   intro v' w3 hown3 hb3 _
   have HO3 : Hid (Own w3 w.heap.size v' (pre ++ [UInt8.ofNat x])) := hown3
   have HC3 : Hid (CurOk w3 g a len cap) := HC2.out.belowB hb3 hg HK.out
   have HG3 : Hid (w.grownBy w3 (some g)) := grown_belowB HG2.out hb3 (Nat.le_refl _)
   have HL3 : Hid ((pre ++ [UInt8.ofNat x]).length = k + 1) := by show _ = _; rw [List.length_append, HL.out]; rfl
   clear hown2 hown3 hb3
   go_wp2
   go_roundw
   case rel => exact ⟨k + 1, _, by omega, by go_num, HL3, HO3, HC3, HG3⟩
   case measure => simp [intOf]; omega
  ·have hlt' : ¬ (k : Int) < (n : Int) := by omega
   have hst := HO.out.str
   go_wp2
   go_ret
   refine ⟨_, ?_, rfl, HC1.out, HG1.out⟩
   have : (⟨pre.toArray⟩ : ByteArray).size = pre.length := by simp [ByteArray.size]
   rw [this, HL.out]; omega

end Go.Proofs.YtekjpoenbcnhdaaGreat
