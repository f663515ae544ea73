/- What the drawing functions of the specification (l01Byte, l01Below ..) do to their cursor. -/
import Derived.Test.YtojjoekomeamcaaDoorBase
import Derived.Deep.QuietTactic
import Derived.BigQuiet
import Derived.Deep.RegionHeld3
import Derived.Deep.DrawnRows
namespace Go.Proofs.YtojjoekomeamcaaDoor
open Go.RowKit
attribute [local go_sem ↓] Go.wp_at_zero Go.wp_at_succ

/-- the drawn bytes: what is read of them is a byte, and they lie in another block than g -/
def CodeOk (w : World) (a : Option Addr) (len g : Nat) : Prop :=
  0 < len → ∃ b off, a = some ⟨b, off, none⟩ ∧ b < w.heap.size ∧ b ≠ g ∧ ∀ i, i < len → ∃ z : Int, 0 ≤ z ∧ z ≤ 255 ∧ w.cell? ⟨b, off + i, none⟩ = some (.int .u8 z)

/-- the cursor in block g -/
structure Cur (w : World) (g : Nat) (a : Option Addr) (len cap : Nat) (i h : Int) : Prop where
  c0 : w.cell? ⟨g, 0, none⟩ = some (.slice a len cap)
  c1 : w.cell? ⟨g, 1, none⟩ = some (.int .i64 i)
  c2 : w.cell? ⟨g, 2, none⟩ = some (.int .i64 h)
  free : ∀ j, w.frozen? ⟨g, j, none⟩ = false
  i0 : 0 ≤ i
  i1 : i ≤ (len : Int)

theorem and_mask (x : Int) (m : Nat) (hm : m < 9223372036854775808) : 0 ≤ bits .and .i64 x (m : Int) ∧ bits .and .i64 x (m : Int) ≤ (m : Int) := by
  have e : (BitVec.ofInt 64 (m : Int)).toNat = m := by
    rw [BitVec.ofInt_natCast, BitVec.toNat_ofNat]; exact Nat.mod_eq_of_lt (by omega)
  have h : ((BitVec.ofInt 64 x &&& BitVec.ofInt 64 (m : Int)).toNat) ≤ m := by
    rw [BitVec.toNat_and, e]; exact Nat.and_le_right
  show 0 ≤ IntKind.i64.wrap ((BitVec.ofInt 64 x &&& BitVec.ofInt 64 (m : Int)).toNat : Int) ∧ IntKind.i64.wrap ((BitVec.ofInt 64 x &&& BitVec.ofInt 64 (m : Int)).toNat : Int) ≤ (m : Int)
  generalize (BitVec.ofInt 64 x &&& BitVec.ofInt 64 (m : Int)).toNat = y at h
  rw [IntKind.wrap_i64]
  omega

theorem and255 (x : Int) : 0 ≤ bits .and .i64 x 255 ∧ bits .and .i64 x 255 ≤ 255 := and_mask x 255 (by omega)

theorem addr_ne (g : Nat) {i k : Nat} (h : i ≠ k) : (⟨g, i, none⟩ : Addr) ≠ ⟨g, k, none⟩ := fun e => h (by cases e; rfl)

theorem grown_set (w : World) (g k : Nat) (v : Value) : w.grownBy (w.setCell ⟨g, k, none⟩ v) (some g) :=
  ⟨rfl, rfl, rfl, by simp [World.setCell], fun j _ hne => Below.heap_setCell _ _ _ _ (fun e => hne (by rw [e]))⟩
theorem grown_trans {a b c : World} {g : Nat} (h : a.grownBy b (some g)) (k : b.grownBy c (some g)) : a.grownBy c (some g) :=
  ⟨k.os.trans h.os, k.tape.trans h.tape, k.output.trans h.output, Nat.le_trans h.size k.size, fun j hj hne => (k.block j (Nat.lt_of_lt_of_le hj h.size) hne).trans (h.block j hj hne)⟩
theorem grown_drewN (w : World) (g n : Nat) : w.grownBy (w.drewN n) (some g) := ⟨rfl, rfl, rfl, Nat.le_refl _, fun _ _ _ => rfl⟩
theorem grown_refl (w : World) (g : Nat) : w.grownBy w (some g) := ⟨rfl, rfl, rfl, Nat.le_refl _, fun _ _ _ => rfl⟩

theorem CodeOk.grown {w w' : World} {a : Option Addr} {len g : Nat} (h : CodeOk w a len g) (hg : w.grownBy w' (some g)) : CodeOk w' a len g := fun hl => by
  obtain ⟨b, off, ha, hb, hne, hz⟩ := h hl
  refine ⟨b, off, ha, Nat.lt_of_lt_of_le hb hg.size, hne, fun i hi => ?_⟩
  obtain ⟨z, h0, h1, hc⟩ := hz i hi
  exact ⟨z, h0, h1, (World.cell?_of_block (w := w) (a := ⟨b, off + i, none⟩) (hg.block b hb (fun e => hne (Option.some.inj e)))).trans hc⟩

theorem Cur.setH {w : World} {g len cap : Nat} {a : Option Addr} {i h : Int} (c : Cur w g a len cap i h) (H : Int) : Cur (w.setCell ⟨g, 2, none⟩ (.int .i64 H)) g a len cap i H :=
  ⟨by rw [World.cell?_setCell_other _ _ _ _ (addr_ne g (show 2 ≠ 0 by omega))]; exact c.c0,
   by rw [World.cell?_setCell_other _ _ _ _ (addr_ne g (show 2 ≠ 1 by omega))]; exact c.c1,
   World.cell?_setCell_same _ _ _ c.c2, fun j => by rw [World.frozen?_setCell]; exact c.free j, c.i0, c.i1⟩
theorem Cur.setI {w : World} {g len cap : Nat} {a : Option Addr} {i h : Int} (c : Cur w g a len cap i h) (I : Int) (h0 : 0 ≤ I) (h1 : I ≤ (len : Int)) : Cur (w.setCell ⟨g, 1, none⟩ (.int .i64 I)) g a len cap I h :=
  ⟨by rw [World.cell?_setCell_other _ _ _ _ (addr_ne g (show 1 ≠ 0 by omega))]; exact c.c0,
   World.cell?_setCell_same _ _ _ c.c1,
   by rw [World.cell?_setCell_other _ _ _ _ (addr_ne g (show 1 ≠ 2 by omega))]; exact c.c2,
   fun j => by rw [World.frozen?_setCell]; exact c.free j, h0, h1⟩
theorem Cur.drewN {w : World} {g len cap : Nat} {a : Option Addr} {i h : Int} (c : Cur w g a len cap i h) (n : Nat) : Cur (w.drewN n) g a len cap i h := ⟨c.c0, c.c1, c.c2, c.free, c.i0, c.i1⟩

set_option maxRecDepth 100000 in
set_option maxHeartbeats 1000000 in
theorem byte26 (g len cap : Nat) (a : Option Addr) (i h : Int) (hl : len ≤ 1048576) (w : World) (hc : Cur w g a len cap i h) (hk : CodeOk w a len g) :
    Calls Tryd.prog 22 #[.pointer (some ⟨g, 0, none⟩)] w fun e w' => ∃ x i' h' : Int, e = .returned (.int .i64 x) ∧ 0 ≤ x ∧ x ≤ 255 ∧ Cur w' g a len cap i' h' ∧ w.grownBy w' (some g) := by
  obtain ⟨n, rfl⟩ := Int.eq_ofNat_of_zero_le hc.i0
  have HC : Hid (Cur w g a len cap n h) := hc
  have HK : Hid (CodeOk w a len g) := hk
  have hn : n ≤ len := by have := hc.i1; omega
  have k0 := hc.c0
  have k1 := hc.c1
  have k2 := hc.c2
  have f0 := hc.free
  clear hc hk
  go_enter Tryd.func22, Tryd.ntmps22
  go_wp2
  generalize wrap64 (wrap64 (h * 6364136223846793005) + 1442695040888963407) = H
  have hc1 := HC.out.setH H
  have hg1 := grown_set w g 2 (.int .i64 H)
  have hk1 := HK.out.grown hg1
  generalize w.setCell ⟨g, 2, none⟩ (.int .i64 H) = W1 at *
  have HC1 : Hid (Cur W1 g a len cap n H) := hc1
  have HG1 : Hid (w.grownBy W1 (some g)) := hg1
  have HK1 : Hid (CodeOk W1 a len g) := hk1
  clear k0 k1 k2 f0
  have k0 := hc1.c0
  have k1 := hc1.c1
  have k2 := hc1.c2
  have f0 := hc1.free
  clear hc1 hg1 hk1
  by_cases hlt : n < len
  · have hlt' : (n : Int) < (len : Int) := by omega
    have hn0 : (0 : Int) ≤ (n : Int) := by omega
    obtain ⟨b, off, rfl, hbb, hbne, hz⟩ := HK1.out (by omega)
    obtain ⟨z, z0, z1, hcz⟩ := hz n hlt
    clear hz
    go_quiet (fail)
    go_wp2
    go_quiet (fail)
    go_wp2
    go_quiet (fail)
    go_wp2
    go_ret
    have hs := HC1.out.setI ((n : Int) + 1) (by omega) (by omega)
    have hg := grown_trans HG1.out (grown_set W1 g 1 (.int .i64 ((n : Int) + 1)))
    exact ⟨_, (n : Int) + 1, H, rfl, (and255 _).1, (and255 _).2, ⟨hs.c0, hs.c1, hs.c2, hs.free, hs.i0, hs.i1⟩, ⟨hg.os, hg.tape, hg.output, hg.size, hg.block⟩⟩
  · have hlt' : decide ((n : Int) < (len : Int)) = false := by simp; omega
    go_quiet (fail)
    go_wp2
    go_quiet (fail)
    go_wp2
    go_ret
    have hs := HC1.out
    have hg := HG1.out
    exact ⟨_, (n : Int), H, rfl, (and255 _).1, (and255 _).2, ⟨hs.c0, hs.c1, hs.c2, hs.free, hs.i0, hs.i1⟩, ⟨hg.os, hg.tape, hg.output, hg.size, hg.block⟩⟩

/-- a cursor over the bytes, somewhere on the way -/
def CurOk (w : World) (g : Nat) (a : Option Addr) (len cap : Nat) : Prop := ∃ i h, Cur w g a len cap i h ∧ CodeOk w a len g

theorem CurOk.below {w w' : World} {g len cap : Nat} {a : Option Addr} (h : CurOk w g a len cap) (hb : Below w.heap.size w w') (hg : g < w.heap.size) : CurOk w' g a len cap := by
  obtain ⟨i, x, c, k⟩ := h
  refine ⟨i, x, ⟨(hb.cell (p := ⟨g, 0, none⟩) hg).trans c.c0, (hb.cell (p := ⟨g, 1, none⟩) hg).trans c.c1, (hb.cell (p := ⟨g, 2, none⟩) hg).trans c.c2, fun j => (hb.frozen (p := ⟨g, j, none⟩) hg).trans (c.free j), c.i0, c.i1⟩, fun hl => ?_⟩
  obtain ⟨b, off, ha, hb1, hne, hz⟩ := k hl
  refine ⟨b, off, ha, Nat.lt_of_lt_of_le hb1 hb.size, hne, fun j hj => ?_⟩
  obtain ⟨z, h0, h1, hc⟩ := hz j hj
  exact ⟨z, h0, h1, (hb.cell (p := ⟨b, off + j, none⟩) hb1).trans hc⟩

theorem byteOk (g len cap : Nat) (a : Option Addr) (hl : len ≤ 1048576) (w : World) (hc : CurOk w g a len cap) :
    Calls Tryd.prog 22 #[.pointer (some ⟨g, 0, none⟩)] w fun e w' => ∃ x : Nat, x ≤ 255 ∧ e = .returned (.int .i64 (x : Int)) ∧ CurOk w' g a len cap ∧ w.grownBy w' (some g) := by
  obtain ⟨i, h, c, k⟩ := hc
  refine (byte26 g len cap a i h hl w c k).mono ?_
  rintro e w' ⟨x, i', h', rfl, h0, h1, hc, hg⟩
  obtain ⟨n, rfl⟩ := Int.eq_ofNat_of_zero_le h0
  exact ⟨n, by omega, rfl, ⟨i', h', hc, k.grown hg⟩, hg⟩

set_option maxRecDepth 100000 in
set_option maxHeartbeats 1000000 in
theorem below21 (g len cap : Nat) (a : Option Addr) (n : Nat) (h0 : 0 < n) (hn : n ≤ 1000000000) (hl : len ≤ 1048576) (w : World) (hc : CurOk w g a len cap) :
    Calls Tryd.prog 21 #[.pointer (some ⟨g, 0, none⟩), .int .i64 (n : Int)] w fun e w' => ∃ x : Nat, x < n ∧ e = .returned (.int .i64 (x : Int)) ∧ CurOk w' g a len cap ∧ w.grownBy w' (some g) := by
  have HC : Hid (CurOk w g a len cap) := hc
  clear hc
  by_cases hs : n ≤ 256
  · go_enter Tryd.func21, Tryd.ntmps21
    go_wp2_with (go_at_call 22; refine (byteOk g len cap a hl _ HC.out).mono ?_; rintro e w1 ⟨x, hx, rfl, hc1, hg1⟩)
    go_ret
    exact ⟨x % n, Nat.mod_lt _ h0, by go_num, hc1, hg1⟩
  · have hs' : ¬ (n : Int) ≤ 256 := by omega
    go_enter Tryd.func21, Tryd.ntmps21
    go_wp2_with fail
    refine (byteOk g len cap a hl _ HC.out).mono ?_
    rintro e w1 ⟨x, hx, rfl, hc1, hg1⟩
    have HC1 : Hid (CurOk w1 g a len cap) := hc1
    have HG1 : Hid (w.grownBy w1 (some g)) := hg1
    clear hc1 hg1
    go_wp2_with fail
    refine (byteOk g len cap a hl _ HC1.out).mono ?_
    rintro e w2 ⟨y, hy, rfl, hc2, hg2⟩
    have HC2 : Hid (CurOk w2 g a len cap) := hc2
    have HG2 : Hid (w.grownBy w2 (some g)) := grown_trans HG1.out hg2
    clear hc2 hg2
    go_wp2_with fail
    refine (byteOk g len cap a hl _ HC2.out).mono ?_
    rintro e w3 ⟨z, hz, rfl, hc3, hg3⟩
    have HC3 : Hid (CurOk w3 g a len cap) := hc3
    have HG3 : Hid (w.grownBy w3 (some g)) := grown_trans HG2.out hg3
    clear hc3 hg3
    go_wp2_with fail
    refine (byteOk g len cap a hl _ HC3.out).mono ?_
    rintro e w4 ⟨u, hu, rfl, hc4, hg4⟩
    have HC4 : Hid (CurOk w4 g a len cap) := hc4
    have HG4 : Hid (w.grownBy w4 (some g)) := grown_trans HG3.out hg4
    clear hc4 hg4
    go_wp2
    go_ret
    exact ⟨(x * 16777216 + y * 65536 + z * 256 + u) % n, Nat.mod_lt _ h0, by go_num, HC4.out, HG4.out⟩
end Go.Proofs.YtojjoekomeamcaaDoor
