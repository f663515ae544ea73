/- What the drawing functions of the specification do to their cursor. -/
import Derived.Test.YtnefncmkhgkdnaaH1
namespace Go.Proofs.Ytnefncmkhgkdnaa
open Go.RowKit
open KM
attribute [local go_sem ↓] Go.wp_at_zero Go.wp_at_succ

/-- the drawn bytes: what is read of them is a byte, and they lie in another block than g -/
def CodeOk (w : World) (a : Option Addr) (len g : Nat) : Prop :=
  0 < len → ∃ b off, a = some ⟨b, off, none⟩ ∧ b < w.heap.size ∧ b ≠ g ∧ ∀ i, i < len → ∃ z : Int, 0 ≤ z ∧ z ≤ 255 ∧ w.cell? ⟨b, off + i, none⟩ = some (.int .u8 z)

/-- the cursor in block g -/
structure Cur (w : World) (g : Nat) (a : Option Addr) (len cap : Nat) (i h : Int) : Prop where
  c0 : w.cell? ⟨g, 0, none⟩ = some (.slice a len cap)
  c1 : w.cell? ⟨g, 1, none⟩ = some (.int .i64 i)
  c2 : w.cell? ⟨g, 2, none⟩ = some (.int .i64 h)
  free : ∀ j, w.frozen? ⟨g, j, none⟩ = false
  i0 : 0 ≤ i
  i1 : i ≤ (len : Int)

theorem and_mask (x : Int) (m : Nat) (hm : m < 9223372036854775808) : 0 ≤ bits .and .i64 x (m : Int) ∧ bits .and .i64 x (m : Int) ≤ (m : Int) := by
  have e : (BitVec.ofInt 64 (m : Int)).toNat = m := by
    rw [BitVec.ofInt_natCast, BitVec.toNat_ofNat]; exact Nat.mod_eq_of_lt (by omega)
  have h : ((BitVec.ofInt 64 x &&& BitVec.ofInt 64 (m : Int)).toNat) ≤ m := by
    rw [BitVec.toNat_and, e]; exact Nat.and_le_right
  show 0 ≤ IntKind.i64.wrap ((BitVec.ofInt 64 x &&& BitVec.ofInt 64 (m : Int)).toNat : Int) ∧ IntKind.i64.wrap ((BitVec.ofInt 64 x &&& BitVec.ofInt 64 (m : Int)).toNat : Int) ≤ (m : Int)
  generalize (BitVec.ofInt 64 x &&& BitVec.ofInt 64 (m : Int)).toNat = y at h
  rw [IntKind.wrap_i64]
  omega

theorem and255 (x : Int) : 0 ≤ bits .and .i64 x 255 ∧ bits .and .i64 x 255 ≤ 255 := and_mask x 255 (by omega)

theorem grown_drewN (w : World) (g n : Nat) : w.grownBy (w.drewN n) (some g) := ⟨rfl, rfl, rfl, Nat.le_refl _, fun _ _ _ => rfl⟩

theorem CodeOk.grown {w w' : World} {a : Option Addr} {len g : Nat} (h : CodeOk w a len g) (hg : w.grownBy w' (some g)) : CodeOk w' a len g := fun hl => by
  obtain ⟨b, off, ha, hb, hne, hz⟩ := h hl
  refine ⟨b, off, ha, Nat.lt_of_lt_of_le hb hg.size, hne, fun i hi => ?_⟩
  obtain ⟨z, h0, h1, hc⟩ := hz i hi
  exact ⟨z, h0, h1, (World.cell?_of_block (w := w) (a := ⟨b, off + i, none⟩) (hg.block b hb (fun e => hne (Option.some.inj e)))).trans hc⟩

theorem Cur.setH {w : World} {g len cap : Nat} {a : Option Addr} {i h : Int} (c : Cur w g a len cap i h) (H : Int) : Cur (w.setCell ⟨g, 2, none⟩ (.int .i64 H)) g a len cap i H :=
  ⟨by rw [World.cell?_setCell_other _ _ _ _ (addr_ne g (show 2 ≠ 0 by omega))]; exact c.c0,
   by rw [World.cell?_setCell_other _ _ _ _ (addr_ne g (show 2 ≠ 1 by omega))]; exact c.c1,
   World.cell?_setCell_same _ _ _ c.c2, fun j => by rw [World.frozen?_setCell]; exact c.free j, c.i0, c.i1⟩

theorem Cur.setI {w : World} {g len cap : Nat} {a : Option Addr} {i h : Int} (c : Cur w g a len cap i h) (I : Int) (h0 : 0 ≤ I) (h1 : I ≤ (len : Int)) : Cur (w.setCell ⟨g, 1, none⟩ (.int .i64 I)) g a len cap I h :=
  ⟨by rw [World.cell?_setCell_other _ _ _ _ (addr_ne g (show 1 ≠ 0 by omega))]; exact c.c0,
   World.cell?_setCell_same _ _ _ c.c1,
   by rw [World.cell?_setCell_other _ _ _ _ (addr_ne g (show 1 ≠ 2 by omega))]; exact c.c2,
   fun j => by rw [World.frozen?_setCell]; exact c.free j, h0, h1⟩

theorem Cur.drewN {w : World} {g len cap : Nat} {a : Option Addr} {i h : Int} (c : Cur w g a len cap i h) (n : Nat) : Cur (w.drewN n) g a len cap i h := ⟨c.c0, c.c1, c.c2, c.free, c.i0, c.i1⟩

set_option maxRecDepth 100000 in
set_option maxHeartbeats 1000000 in
theorem byte26 (g len cap : Nat) (a : Option Addr) (i h : Int) (hl : len ≤ 1048576) (w : World) (hc : Cur w g a len cap i h) (hk : CodeOk w a len g) :
    Calls Try.prog 76 #[.pointer (some ⟨g, 0, none⟩)] w fun e w' => ∃ x i' h' : Int, e = .returned (.int .i64 x) ∧ 0 ≤ x ∧ x ≤ 255 ∧ Cur w' g a len cap i' h' ∧ w.grownBy w' (some g) := by
  obtain ⟨n, rfl⟩ := Int.eq_ofNat_of_zero_le hc.i0
  have HC : Hid (Cur w g a len cap n h) := hc
  have HK : Hid (CodeOk w a len g) := hk
  have hn : n ≤ len := by have := hc.i1; omega
  have k0 := hc.c0
  have k1 := hc.c1
  have k2 := hc.c2
  have f0 := hc.free
  clear hc hk
  go_enter Try.func76, Try.ntmps76
  go_wp2
  generalize wrap64 (wrap64 (h * 6364136223846793005) + 1442695040888963407) = H
  have hc1 := HC.out.setH H
  have hg1 := grown_set w g 2 (.int .i64 H)
  have hk1 := HK.out.grown hg1
  generalize w.setCell ⟨g, 2, none⟩ (.int .i64 H) = W1 at *
  have HC1 : Hid (Cur W1 g a len cap n H) := hc1
  have HG1 : Hid (w.grownBy W1 (some g)) := hg1
  have HK1 : Hid (CodeOk W1 a len g) := hk1
  clear k0 k1 k2 f0
  have k0 := hc1.c0
  have k1 := hc1.c1
  have k2 := hc1.c2
  have f0 := hc1.free
  clear hc1 hg1 hk1
  by_cases hlt : n < len
  · have hlt' : (n : Int) < (len : Int) := by omega
    have hn0 : (0 : Int) ≤ (n : Int) := by omega
    obtain ⟨b, off, rfl, hbb, hbne, hz⟩ := HK1.out (by omega)
    obtain ⟨z, z0, z1, hcz⟩ := hz n hlt
    clear hz
    go_quiet (fail)
    go_wp2
    go_quiet (fail)
    go_wp2
    go_quiet (fail)
    go_wp2
    go_ret
    have hs := HC1.out.setI ((n : Int) + 1) (by omega) (by omega)
    have hg := grown_trans HG1.out (grown_set W1 g 1 (.int .i64 ((n : Int) + 1)))
    exact ⟨_, (n : Int) + 1, H, rfl, (and255 _).1, (and255 _).2, ⟨hs.c0, hs.c1, hs.c2, hs.free, hs.i0, hs.i1⟩, ⟨hg.os, hg.tape, hg.output, hg.size, hg.block⟩⟩
  · have hlt' : decide ((n : Int) < (len : Int)) = false := by simp; omega
    go_quiet (fail)
    go_wp2
    go_quiet (fail)
    go_wp2
    go_ret
    have hs := HC1.out
    have hg := HG1.out
    exact ⟨_, (n : Int), H, rfl, (and255 _).1, (and255 _).2, ⟨hs.c0, hs.c1, hs.c2, hs.free, hs.i0, hs.i1⟩, ⟨hg.os, hg.tape, hg.output, hg.size, hg.block⟩⟩

/-- a cursor over the bytes, somewhere on the way -/
def CurOk (w : World) (g : Nat) (a : Option Addr) (len cap : Nat) : Prop := ∃ i h, Cur w g a len cap i h ∧ CodeOk w a len g

theorem CurOk.below {w w' : World} {g len cap : Nat} {a : Option Addr} (h : CurOk w g a len cap) (hb : Below w.heap.size w w') (hg : g < w.heap.size) : CurOk w' g a len cap := by
  obtain ⟨i, x, c, k⟩ := h
  refine ⟨i, x, ⟨(hb.cell (p := ⟨g, 0, none⟩) hg).trans c.c0, (hb.cell (p := ⟨g, 1, none⟩) hg).trans c.c1, (hb.cell (p := ⟨g, 2, none⟩) hg).trans c.c2, fun j => (hb.frozen (p := ⟨g, j, none⟩) hg).trans (c.free j), c.i0, c.i1⟩, fun hl => ?_⟩
  obtain ⟨b, off, ha, hb1, hne, hz⟩ := k hl
  refine ⟨b, off, ha, Nat.lt_of_lt_of_le hb1 hb.size, hne, fun j hj => ?_⟩
  obtain ⟨z, h0, h1, hc⟩ := hz j hj
  exact ⟨z, h0, h1, (hb.cell (p := ⟨b, off + j, none⟩) hb1).trans hc⟩

theorem byteOk (g len cap : Nat) (a : Option Addr) (hl : len ≤ 1048576) (w : World) (hc : CurOk w g a len cap) :
    Calls Try.prog 76 #[.pointer (some ⟨g, 0, none⟩)] w fun e w' => ∃ x : Nat, x ≤ 255 ∧ e = .returned (.int .i64 (x : Int)) ∧ CurOk w' g a len cap ∧ w.grownBy w' (some g) := by
  obtain ⟨i, h, c, k⟩ := hc
  refine (byte26 g len cap a i h hl w c k).mono ?_
  rintro e w' ⟨x, i', h', rfl, h0, h1, hc, hg⟩
  obtain ⟨n, rfl⟩ := Int.eq_ofNat_of_zero_le h0
  exact ⟨n, by omega, rfl, ⟨i', h', hc, k.grown hg⟩, hg⟩

set_option maxRecDepth 100000 in
set_option maxHeartbeats 1000000 in
theorem below21 (g len cap : Nat) (a : Option Addr) (n : Nat) (h0 : 0 < n) (hn : n ≤ 1000000000) (hl : len ≤ 1048576) (w : World) (hc : CurOk w g a len cap) :
    Calls Try.prog 42 #[.pointer (some ⟨g, 0, none⟩), .int .i64 (n : Int)] w fun e w' => ∃ x : Nat, x < n ∧ e = .returned (.int .i64 (x : Int)) ∧ CurOk w' g a len cap ∧ w.grownBy w' (some g) := by
  have HC : Hid (CurOk w g a len cap) := hc
  clear hc
  by_cases hs : n ≤ 256
  · go_enter Try.func42, Try.ntmps42
    go_wp2_with (go_at_call 76; refine (byteOk g len cap a hl _ HC.out).mono ?_; rintro e w1 ⟨x, hx, rfl, hc1, hg1⟩)
    go_ret
    exact ⟨x % n, Nat.mod_lt _ h0, by go_num, hc1, hg1⟩
  · have hs' : ¬ (n : Int) ≤ 256 := by omega
    go_enter Try.func42, Try.ntmps42
    go_wp2_with fail
    refine (byteOk g len cap a hl _ HC.out).mono ?_
    rintro e w1 ⟨x, hx, rfl, hc1, hg1⟩
    have HC1 : Hid (CurOk w1 g a len cap) := hc1
    have HG1 : Hid (w.grownBy w1 (some g)) := hg1
    clear hc1 hg1
    go_wp2_with fail
    refine (byteOk g len cap a hl _ HC1.out).mono ?_
    rintro e w2 ⟨y, hy, rfl, hc2, hg2⟩
    have HC2 : Hid (CurOk w2 g a len cap) := hc2
    have HG2 : Hid (w.grownBy w2 (some g)) := grown_trans HG1.out hg2
    clear hc2 hg2
    go_wp2_with fail
    refine (byteOk g len cap a hl _ HC2.out).mono ?_
    rintro e w3 ⟨z, hz, rfl, hc3, hg3⟩
    have HC3 : Hid (CurOk w3 g a len cap) := hc3
    have HG3 : Hid (w.grownBy w3 (some g)) := grown_trans HG2.out hg3
    clear hc3 hg3
    go_wp2_with fail
    refine (byteOk g len cap a hl _ HC3.out).mono ?_
    rintro e w4 ⟨u, hu, rfl, hc4, hg4⟩
    have HC4 : Hid (CurOk w4 g a len cap) := hc4
    have HG4 : Hid (w.grownBy w4 (some g)) := grown_trans HG3.out hg4
    clear hc4 hg4
    go_wp2
    go_ret
    exact ⟨(x * 16777216 + y * 65536 + z * 256 + u) % n, Nat.mod_lt _ h0, by go_num, HC4.out, HG4.out⟩

/-- bytes that came in -/
def CodeRow (w : World) (a : Option Addr) (len : Nat) : Prop :=
  0 < len → ∃ b off, a = some ⟨b, off, none⟩ ∧ b < w.heap.size ∧ ∀ i, i < len → ∃ z : Int, 0 ≤ z ∧ z ≤ 255 ∧ w.cell? ⟨b, off + i, none⟩ = some (.int .u8 z)

theorem CodeRow.below {w w' : World} {a : Option Addr} {len : Nat} (h : CodeRow w a len) (hb : Below w.heap.size w w') : CodeRow w' a len := fun hl => by
  obtain ⟨b, off, ha, hb1, hz⟩ := h hl
  refine ⟨b, off, ha, Nat.lt_of_lt_of_le hb1 hb.size, fun j hj => ?_⟩
  obtain ⟨z, h0, h1, hc⟩ := hz j hj
  exact ⟨z, h0, h1, (hb.cell (p := ⟨b, off + j, none⟩) hb1).trans hc⟩

theorem curNew (w : World) (a : Option Addr) (len cap : Nat) (H : Int) (hr : CodeRow w a len) : CurOk (w.alloc (.cells #[.slice a len cap, .int .i64 0, .int .i64 H] 90)) w.heap.size a len cap := by
  refine ⟨0, H, ⟨?_, ?_, ?_, ?_, by omega, by omega⟩, fun hl => ?_⟩
  · exact World.cell?_alloc_mark w _ 90 (0, 0) 0
  · exact World.cell?_alloc_mark w _ 90 (0, 0) 1
  · exact World.cell?_alloc_mark w _ 90 (0, 0) 2
  · intro j
    rw [show (w.alloc (.cells #[.slice a len cap, .int .i64 0, .int .i64 H] 90)).frozen? ⟨w.heap.size, j, none⟩ = _ from World.frozen?_alloc_mark w _ 90 0 0 j]
    simp
  · obtain ⟨b, off, ha, hb1, hz⟩ := hr hl
    refine ⟨b, off, ha, by simp; omega, by omega, fun j hj => ?_⟩
    obtain ⟨z, h0, h1, hc⟩ := hz j hj
    exact ⟨z, h0, h1, (World.cell?_alloc_past _ _ _ (by omega)).trans hc⟩

set_option maxRecDepth 100000 in
set_option maxHeartbeats 1000000 in
theorem new16 (len cap : Nat) (a : Option Addr) (hl : len ≤ 1048576) (w : World) (hr : CodeRow w a len) :
    Calls Try.prog 39 #[.slice a len cap] w fun e w' => e = .returned (.pointer (some ⟨w.heap.size, 0, none⟩)) ∧ CurOk w' w.heap.size a len cap ∧ Below w.heap.size w w' ∧ w.heap.size < w'.heap.size := by
  have HR : Hid (CodeRow w a len) := hr
  clear hr
  go_enter Try.func39, Try.ntmps39
  go_wp2
  go_loop [3, 4] (fun t3 t4 => ∃ (k : Nat) (H : Int), k ≤ len ∧ t4 = .int .i64 (k : Int) ∧ t3 = .int .i64 H) (fun _ t4 => len - (intOf t4).toNat)
  case atStart => exact ⟨0, _, Nat.zero_le _, rfl, rfl⟩
  case round =>
    obtain ⟨k, H, hk, rfl, rfl⟩ := hrel
    by_cases hlt : k < len
    · have hlt' : (k : Int) < (len : Int) := by omega
      by_cases h4 : k < 4000
      · have h4' : (k : Int) < 4000 := by omega
        have h0 : (0 : Int) ≤ (k : Int) := by omega
        obtain ⟨b, off, rfl, hbb, hz⟩ := HR.out (by omega)
        obtain ⟨z, z0, z1, hcz⟩ := hz k hlt
        clear hz
        go_wp2
        go_round
        case rel => exact ⟨k + 1, _, by omega, by go_num, rfl⟩
        case measure => simp [intOf]; omega
      · have h4' : decide ((k : Int) < 4000) = false := by simp; omega
        go_wp2
        go_ret
        exact ⟨rfl, curNew w a len cap H HR.out, (Below.refl _ _).alloc (Nat.le_refl _) _, by simp⟩
    · have hlt' : decide ((k : Int) < (len : Int)) = false := by simp; omega
      go_wp2
      go_ret
      exact ⟨rfl, curNew w a len cap H HR.out, (Below.refl _ _).alloc (Nat.le_refl _) _, by simp⟩


/-- a cursor over the bytes, with all that is asked of it -/
structure CurI (w : World) (g : Nat) (a : Option Addr) (len cap : Nat) : Prop where
  c : CurOk w g a len cap
  lt : g < w.heap.size
  sm : len ≤ 1048576
theorem CurI.below {w w' : World} {g len cap : Nat} {a : Option Addr} (h : CurI w g a len cap) (hb : Below w.heap.size w w') : CurI w' g a len cap :=
  ⟨h.c.below hb h.lt, Nat.lt_of_lt_of_le h.lt hb.size, h.sm⟩
theorem CurI.drew {w : World} {g len cap : Nat} {a : Option Addr} (h : CurI w g a len cap) : CurI w.drew g a len cap := h.below ((belowRefl w).drew)
theorem CurI.alloc {w : World} {g len cap : Nat} {a : Option Addr} (h : CurI w g a len cap) (o : Obj) : CurI (w.alloc o) g a len cap := h.below ((belowRefl w).alloc (Nat.le_refl _) o)

/-- the cursor and the bytes lie in what was there -/
def OldC (w0 : World) (g : Nat) (a : Option Addr) (len : Nat) : Prop := g < w0.heap.size ∧ ∀ b off, a = some ⟨b, off, none⟩ → 0 < len → b < w0.heap.size
theorem CurI.old {w : World} {g len cap : Nat} {a : Option Addr} (h : CurI w g a len cap) : OldC w g a len :=
  ⟨h.lt, fun b off e hl => by
    obtain ⟨i, x, c, k⟩ := h.c
    obtain ⟨b', off', ha, hb, _⟩ := k hl
    rw [e] at ha
    cases ha
    exact hb⟩
theorem OldC.le {w w' : World} {g len : Nat} {a : Option Addr} (h : OldC w g a len) (hs : w.heap.size ≤ w'.heap.size) : OldC w' g a len :=
  ⟨Nat.lt_of_lt_of_le h.1 hs, fun b off e hl => Nat.lt_of_lt_of_le (h.2 b off e hl) hs⟩

theorem CurOk.belowB {w w' : World} {g len cap B : Nat} {a : Option Addr} (h : CurOk w g a len cap) (hb : Below B w w') (hg : g < B) (hcode : ∀ b off, a = some ⟨b, off, none⟩ → 0 < len → b < B) : CurOk w' g a len cap := by
  obtain ⟨i, x, c, k⟩ := h
  refine ⟨i, x, ⟨(hb.cell (p := ⟨g, 0, none⟩) hg).trans c.c0, (hb.cell (p := ⟨g, 1, none⟩) hg).trans c.c1, (hb.cell (p := ⟨g, 2, none⟩) hg).trans c.c2, fun j => (hb.frozen (p := ⟨g, j, none⟩) hg).trans (c.free j), c.i0, c.i1⟩, fun hl => ?_⟩
  obtain ⟨b, off, ha, hb1, hne, hz⟩ := k hl
  refine ⟨b, off, ha, Nat.lt_of_lt_of_le hb1 hb.size, hne, fun j hj => ?_⟩
  obtain ⟨z, h0, h1, hc⟩ := hz j hj
  exact ⟨z, h0, h1, (hb.cell (p := ⟨b, off + j, none⟩) (hcode b off ha hl)).trans hc⟩
theorem grown_belowB {w w2 w3 : World} {g B : Nat} (h : w.grownBy w2 (some g)) (hb : Below B w2 w3) (hB : w.heap.size ≤ B) : w.grownBy w3 (some g) :=
  ⟨hb.os.trans h.os, hb.tape.trans h.tape, hb.output.trans h.output, Nat.le_trans h.size hb.size, fun j hj hne => (hb.block j (by omega)).trans (h.block j hj hne)⟩

/-- from w0 to w something was drawn -/
structure Dn (w0 w : World) (g : Nat) (a : Option Addr) (len cap : Nat) : Prop where
  c : CurI w g a len cap
  gr : w0.grownBy w (some g)
  old : OldC w0 g a len
section
variable {w0 w w' : World} {g len cap : Nat} {a : Option Addr}
theorem Dn.start (h : CurI w g a len cap) : Dn w w g a len cap := ⟨h, grown_refl _ _, h.old⟩
theorem Dn.step (h : Dn w0 w g a len cap) (h2 : Dn w w' g a len cap) : Dn w0 w' g a len cap := ⟨h2.c, grown_trans h.gr h2.gr, h.old⟩
/-- what was not there may be turned at will -/
theorem Dn.belowB (h : Dn w0 w g a len cap) (hb : Below w0.heap.size w w') : Dn w0 w' g a len cap :=
  ⟨⟨h.c.c.belowB hb h.old.1 h.old.2, Nat.lt_of_lt_of_le h.c.lt hb.size, h.c.sm⟩, grown_belowB h.gr hb (Nat.le_refl _), h.old⟩
theorem Dn.below (h : Dn w0 w g a len cap) (hb : Below w.heap.size w w') : Dn w0 w' g a len cap := h.belowB (hb.mono h.gr.size)
theorem Dn.set (h : Dn w0 w g a len cap) {p : Addr} (hp : w0.heap.size ≤ p.block) (u : Value) : Dn w0 (w.setCell p u) g a len cap := h.belowB ((Below.refl _ _).setCell hp u)
theorem Dn.alloc (h : Dn w0 w g a len cap) (o : Obj) : Dn w0 (w.alloc o) g a len cap := h.below ((belowRefl w).alloc (Nat.le_refl _) o)
theorem Dn.drew (h : Dn w0 w g a len cap) : Dn w0 w.drew g a len cap := h.below ((belowRefl w).drew)
theorem Dn.size (h : Dn w0 w g a len cap) : w0.heap.size ≤ w.heap.size := h.gr.size
theorem Dn.sizeLt (h : Dn w0 w g a len cap) {n : Nat} (hn : n < w0.heap.size) : n < w.heap.size := Nat.lt_of_lt_of_le hn h.gr.size
/-- behind a new cursor that was drawn from nothing that was there has turned -/
theorem Dn.out {B : Nat} (h : Dn w0 w g a len cap) (hB : Below B w' w0) (hg : B ≤ g) (hs : B ≤ w0.heap.size) : Below B w' w :=
  hB.grown h.gr hs (fun j hj => by cases hj; exact hg)
theorem GOwn.keptD {α : Type} {E : Enc α} {e : TypeId} {base : Nat} {v : Value} {l : List α} (h : GOwn E e w base v l) (d : Dn w w' g a len cap) (hlt : g < base) : GOwn E e w' base v l :=
  World.ownsRow.kept h d.gr (by
    cases e : v.ownBlock with
    | none => exact Or.inl rfl
    | some k => right; intro e2; have := (World.ownsRow.lt h k e).1; have := Option.some.inj e2; omega)
end

section
variable {w w' : World} {b : Nat} {cs : List Value}
theorem Bx.keptD {g len cap : Nat} {a : Option Addr} (h : Bx w b cs) (d : Dn w w' g a len cap) (hne : b ≠ g) : Bx w' b cs := h.grown d.gr hne
end

theorem drBelow (g len cap : Nat) (a : Option Addr) (n : Nat) (h0 : 0 < n) (hn : n ≤ 1000000000) (w : World) (hc : CurI w g a len cap) :
    Calls Try.prog 42 #[.pointer (some ⟨g, 0, none⟩), .int .i64 (n : Int)] w fun e w' => ∃ x : Nat, x < n ∧ e = .returned (.int .i64 (x : Int)) ∧ Dn w w' g a len cap := by
  refine (below21 g len cap a n h0 hn hc.sm w hc.c).mono ?_
  rintro e w' ⟨x, hx, rfl, hc', hg⟩
  exact ⟨x, hx, rfl, ⟨hc', Nat.lt_of_lt_of_le hc.lt hg.size, hc.sm⟩, hg, hc.old⟩

theorem drNew (len cap : Nat) (a : Option Addr) (hl : len ≤ 1048576) (w : World) (hr : CodeRow w a len) :
    Calls Try.prog 39 #[.slice a len cap] w fun e w' => e = .returned (.pointer (some ⟨w.heap.size, 0, none⟩)) ∧ CurI w' w.heap.size a len cap ∧ Below w.heap.size w w' := by
  refine (new16 len cap a hl w hr).mono ?_
  rintro e w' ⟨rfl, hc, hb, hs⟩
  exact ⟨rfl, ⟨hc, hs, hl⟩, hb⟩

set_option maxHeartbeats 400000 in
theorem drOnce (g len cap : Nat) (a : Option Addr) (n : Nat) (h0 : 0 < n) (hn : n ≤ 1000000000) (w : World) (hc : CurI w g a len cap) :
    Calls Try.prog 113 #[.pointer (some ⟨g, 0, none⟩), .int .i64 (n : Int)] w fun e w' => ∃ b : Bool, e = .returned (.bool b) ∧ Dn w w' g a len cap := by
  have HC : Hid (CurI w g a len cap) := hc
  clear hc
  go_enter Try.func113, Try.ntmps113
  go_wp2_with (go_at_call 42; refine (drBelow g len cap a n h0 hn _ HC.out).mono ?_; rintro e w1 ⟨x, hx, rfl, d1⟩)
  go_ret
  exact ⟨_, rfl, d1⟩

set_option maxHeartbeats 400000 in
theorem drPick (g len cap : Nat) (a : Option Addr) (ss : List ByteArray) (g2 c2 : Nat) (h0 : 0 < ss.length) (hn : ss.length ≤ 1000) (w : World) (hc : CurI w g a len cap) (hne : g2 ≠ g) (hb : Bx w g2 (ss.map Value.string)) :
    Calls Try.prog 114 #[.pointer (some ⟨g, 0, none⟩), .slice (some ⟨g2, 0, none⟩) ss.length c2] w fun e w' => ∃ s ∈ ss, e = .returned (.string s) ∧ Dn w w' g a len cap := by
  have HC : Hid (CurI w g a len cap) := hc
  have HX : Hid (Bx w g2 (ss.map Value.string)) := hb
  clear hc hb
  go_enter Try.func114, Try.ntmps114
  go_wp2_with fail
  refine (drBelow g len cap a ss.length h0 (by omega) _ HC.out).mono ?_
  rintro e w1 ⟨x, hx, rfl, d1⟩
  have D1 : Hid (Dn w w1 g a len cap) := d1
  have hz1 : w1.cell? ⟨g2, x, none⟩ = some (.string ss[x]) := by
    rw [(HX.out.keptD d1 hne).at' x (by simpa using hx)]
    simp [hx]
  clear d1
  have hx' : (x : Int) < (ss.length : Int) := by omega
  have hx0 : (0 : Int) ≤ (x : Int) := by omega
  go_wp2
  go_ret
  exact ⟨ss[x], List.getElem_mem hx, rfl, D1.out⟩
end Go.Proofs.Ytnefncmkhgkdnaa
