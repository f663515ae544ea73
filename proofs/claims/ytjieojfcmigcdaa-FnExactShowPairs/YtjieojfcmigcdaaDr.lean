/- What the drawing functions of the specification do to their cursor. -/
import Derived.Test.YtjieojfcmigcdaaH1
namespace Go.Proofs.Ytjieojfcmigcdaa
open Go.RowKit
open KM
attribute [local go_sem ↓] Go.wp_at_zero Go.wp_at_succ

/-- the drawn bytes: what is read of them is a byte, and they lie in another block than g -/
def CodeOk (w : World) (a : Option Addr) (len g : Nat) : Prop :=
  0 < len → ∃ b off, a = some ⟨b, off, none⟩ ∧ b < w.heap.size ∧ b ≠ g ∧ ∀ i, i < len → ∃ z : Int, 0 ≤ z ∧ z ≤ 255 ∧ w.cell? ⟨b, off + i, none⟩ = some (.int .u8 z)

/-- the cursor in block g -/
structure Cur (w : World) (g : Nat) (a : Option Addr) (len cap : Nat) (i h : Int) : Prop where
  c0 : w.cell? ⟨g, 0, none⟩ = some (.slice a len cap)
  c1 : w.cell? ⟨g, 1, none⟩ = some (.int .i64 i)
  c2 : w.cell? ⟨g, 2, none⟩ = some (.int .i64 h)
  free : ∀ j, w.frozen? ⟨g, j, none⟩ = false
  i0 : 0 ≤ i
  i1 : i ≤ (len : Int)

theorem and_mask (x : Int) (m : Nat) (hm : m < 9223372036854775808) : 0 ≤ bits .and .i64 x (m : Int) ∧ bits .and .i64 x (m : Int) ≤ (m : Int) := by
  have e : (BitVec.ofInt 64 (m : Int)).toNat = m := by
    rw [BitVec.ofInt_natCast, BitVec.toNat_ofNat]; exact Nat.mod_eq_of_lt (by omega)
  have h : ((BitVec.ofInt 64 x &&& BitVec.ofInt 64 (m : Int)).toNat) ≤ m := by
    rw [BitVec.toNat_and, e]; exact Nat.and_le_right
  show 0 ≤ IntKind.i64.wrap ((BitVec.ofInt 64 x &&& BitVec.ofInt 64 (m : Int)).toNat : Int) ∧ IntKind.i64.wrap ((BitVec.ofInt 64 x &&& BitVec.ofInt 64 (m : Int)).toNat : Int) ≤ (m : Int)
  generalize (BitVec.ofInt 64 x &&& BitVec.ofInt 64 (m : Int)).toNat = y at h
  rw [IntKind.wrap_i64]
  omega

theorem and255 (x : Int) : 0 ≤ bits .and .i64 x 255 ∧ bits .and .i64 x 255 ≤ 255 := and_mask x 255 (by omega)

theorem grown_drewN (w : World) (g n : Nat) : w.grownBy (w.drewN n) (some g) := ⟨rfl, rfl, rfl, Nat.le_refl _, fun _ _ _ => rfl⟩

theorem CodeOk.grown {w w' : World} {a : Option Addr} {len g : Nat} (h : CodeOk w a len g) (hg : w.grownBy w' (some g)) : CodeOk w' a len g := fun hl => by
  obtain ⟨b, off, ha, hb, hne, hz⟩ := h hl
  refine ⟨b, off, ha, Nat.lt_of_lt_of_le hb hg.size, hne, fun i hi => ?_⟩
  obtain ⟨z, h0, h1, hc⟩ := hz i hi
  exact ⟨z, h0, h1, (World.cell?_of_block (w := w) (a := ⟨b, off + i, none⟩) (hg.block b hb (fun e => hne (Option.some.inj e)))).trans hc⟩

theorem Cur.setH {w : World} {g len cap : Nat} {a : Option Addr} {i h : Int} (c : Cur w g a len cap i h) (H : Int) : Cur (w.setCell ⟨g, 2, none⟩ (.int .i64 H)) g a len cap i H :=
  ⟨by rw [World.cell?_setCell_other _ _ _ _ (addr_ne g (show 2 ≠ 0 by omega))]; exact c.c0,
   by rw [World.cell?_setCell_other _ _ _ _ (addr_ne g (show 2 ≠ 1 by omega))]; exact c.c1,
   World.cell?_setCell_same _ _ _ c.c2, fun j => by rw [World.frozen?_setCell]; exact c.free j, c.i0, c.i1⟩

theorem Cur.setI {w : World} {g len cap : Nat} {a : Option Addr} {i h : Int} (c : Cur w g a len cap i h) (I : Int) (h0 : 0 ≤ I) (h1 : I ≤ (len : Int)) : Cur (w.setCell ⟨g, 1, none⟩ (.int .i64 I)) g a len cap I h :=
  ⟨by rw [World.cell?_setCell_other _ _ _ _ (addr_ne g (show 1 ≠ 0 by omega))]; exact c.c0,
   World.cell?_setCell_same _ _ _ c.c1,
   by rw [World.cell?_setCell_other _ _ _ _ (addr_ne g (show 1 ≠ 2 by omega))]; exact c.c2,
   fun j => by rw [World.frozen?_setCell]; exact c.free j, h0, h1⟩

theorem Cur.drewN {w : World} {g len cap : Nat} {a : Option Addr} {i h : Int} (c : Cur w g a len cap i h) (n : Nat) : Cur (w.drewN n) g a len cap i h := ⟨c.c0, c.c1, c.c2, c.free, c.i0, c.i1⟩

/-- a cursor over the bytes, somewhere on the way -/
def CurOk (w : World) (g : Nat) (a : Option Addr) (len cap : Nat) : Prop := ∃ i h, Cur w g a len cap i h ∧ CodeOk w a len g

theorem CurOk.below {w w' : World} {g len cap : Nat} {a : Option Addr} (h : CurOk w g a len cap) (hb : Below w.heap.size w w') (hg : g < w.heap.size) : CurOk w' g a len cap := by
  obtain ⟨i, x, c, k⟩ := h
  refine ⟨i, x, ⟨(hb.cell (p := ⟨g, 0, none⟩) hg).trans c.c0, (hb.cell (p := ⟨g, 1, none⟩) hg).trans c.c1, (hb.cell (p := ⟨g, 2, none⟩) hg).trans c.c2, fun j => (hb.frozen (p := ⟨g, j, none⟩) hg).trans (c.free j), c.i0, c.i1⟩, fun hl => ?_⟩
  obtain ⟨b, off, ha, hb1, hne, hz⟩ := k hl
  refine ⟨b, off, ha, Nat.lt_of_lt_of_le hb1 hb.size, hne, fun j hj => ?_⟩
  obtain ⟨z, h0, h1, hc⟩ := hz j hj
  exact ⟨z, h0, h1, (hb.cell (p := ⟨b, off + j, none⟩) hb1).trans hc⟩

/-- bytes that came in -/
def CodeRow (w : World) (a : Option Addr) (len : Nat) : Prop :=
  0 < len → ∃ b off, a = some ⟨b, off, none⟩ ∧ b < w.heap.size ∧ ∀ i, i < len → ∃ z : Int, 0 ≤ z ∧ z ≤ 255 ∧ w.cell? ⟨b, off + i, none⟩ = some (.int .u8 z)

theorem CodeRow.below {w w' : World} {a : Option Addr} {len : Nat} (h : CodeRow w a len) (hb : Below w.heap.size w w') : CodeRow w' a len := fun hl => by
  obtain ⟨b, off, ha, hb1, hz⟩ := h hl
  refine ⟨b, off, ha, Nat.lt_of_lt_of_le hb1 hb.size, fun j hj => ?_⟩
  obtain ⟨z, h0, h1, hc⟩ := hz j hj
  exact ⟨z, h0, h1, (hb.cell (p := ⟨b, off + j, none⟩) hb1).trans hc⟩

/-- a cursor over the bytes, with all that is asked of it -/
structure CurI (w : World) (g : Nat) (a : Option Addr) (len cap : Nat) : Prop where
  c : CurOk w g a len cap
  lt : g < w.heap.size
  sm : len ≤ 1048576
theorem CurI.below {w w' : World} {g len cap : Nat} {a : Option Addr} (h : CurI w g a len cap) (hb : Below w.heap.size w w') : CurI w' g a len cap :=
  ⟨h.c.below hb h.lt, Nat.lt_of_lt_of_le h.lt hb.size, h.sm⟩
theorem CurI.drew {w : World} {g len cap : Nat} {a : Option Addr} (h : CurI w g a len cap) : CurI w.drew g a len cap := h.below ((belowRefl w).drew)
theorem CurI.alloc {w : World} {g len cap : Nat} {a : Option Addr} (h : CurI w g a len cap) (o : Obj) : CurI (w.alloc o) g a len cap := h.below ((belowRefl w).alloc (Nat.le_refl _) o)

/-- the cursor and the bytes lie in what was there -/
def OldC (w0 : World) (g : Nat) (a : Option Addr) (len : Nat) : Prop := g < w0.heap.size ∧ ∀ b off, a = some ⟨b, off, none⟩ → 0 < len → b < w0.heap.size
theorem CurI.old {w : World} {g len cap : Nat} {a : Option Addr} (h : CurI w g a len cap) : OldC w g a len :=
  ⟨h.lt, fun b off e hl => by
    obtain ⟨i, x, c, k⟩ := h.c
    obtain ⟨b', off', ha, hb, _⟩ := k hl
    rw [e] at ha
    cases ha
    exact hb⟩
theorem OldC.le {w w' : World} {g len : Nat} {a : Option Addr} (h : OldC w g a len) (hs : w.heap.size ≤ w'.heap.size) : OldC w' g a len :=
  ⟨Nat.lt_of_lt_of_le h.1 hs, fun b off e hl => Nat.lt_of_lt_of_le (h.2 b off e hl) hs⟩

theorem CurOk.belowB {w w' : World} {g len cap B : Nat} {a : Option Addr} (h : CurOk w g a len cap) (hb : Below B w w') (hg : g < B) (hcode : ∀ b off, a = some ⟨b, off, none⟩ → 0 < len → b < B) : CurOk w' g a len cap := by
  obtain ⟨i, x, c, k⟩ := h
  refine ⟨i, x, ⟨(hb.cell (p := ⟨g, 0, none⟩) hg).trans c.c0, (hb.cell (p := ⟨g, 1, none⟩) hg).trans c.c1, (hb.cell (p := ⟨g, 2, none⟩) hg).trans c.c2, fun j => (hb.frozen (p := ⟨g, j, none⟩) hg).trans (c.free j), c.i0, c.i1⟩, fun hl => ?_⟩
  obtain ⟨b, off, ha, hb1, hne, hz⟩ := k hl
  refine ⟨b, off, ha, Nat.lt_of_lt_of_le hb1 hb.size, hne, fun j hj => ?_⟩
  obtain ⟨z, h0, h1, hc⟩ := hz j hj
  exact ⟨z, h0, h1, (hb.cell (p := ⟨b, off + j, none⟩) (hcode b off ha hl)).trans hc⟩
theorem grown_belowB {w w2 w3 : World} {g B : Nat} (h : w.grownBy w2 (some g)) (hb : Below B w2 w3) (hB : w.heap.size ≤ B) : w.grownBy w3 (some g) :=
  ⟨hb.os.trans h.os, hb.tape.trans h.tape, hb.output.trans h.output, Nat.le_trans h.size hb.size, fun j hj hne => (hb.block j (by omega)).trans (h.block j hj hne)⟩

/-- from w0 to w something was drawn -/
structure Dn (w0 w : World) (g : Nat) (a : Option Addr) (len cap : Nat) : Prop where
  c : CurI w g a len cap
  gr : w0.grownBy w (some g)
  old : OldC w0 g a len
section
variable {w0 w w' : World} {g len cap : Nat} {a : Option Addr}
theorem Dn.start (h : CurI w g a len cap) : Dn w w g a len cap := ⟨h, grown_refl _ _, h.old⟩
theorem Dn.step (h : Dn w0 w g a len cap) (h2 : Dn w w' g a len cap) : Dn w0 w' g a len cap := ⟨h2.c, grown_trans h.gr h2.gr, h.old⟩
/-- what was not there may be turned at will -/
theorem Dn.belowB (h : Dn w0 w g a len cap) (hb : Below w0.heap.size w w') : Dn w0 w' g a len cap :=
  ⟨⟨h.c.c.belowB hb h.old.1 h.old.2, Nat.lt_of_lt_of_le h.c.lt hb.size, h.c.sm⟩, grown_belowB h.gr hb (Nat.le_refl _), h.old⟩
theorem Dn.below (h : Dn w0 w g a len cap) (hb : Below w.heap.size w w') : Dn w0 w' g a len cap := h.belowB (hb.mono h.gr.size)
theorem Dn.set (h : Dn w0 w g a len cap) {p : Addr} (hp : w0.heap.size ≤ p.block) (u : Value) : Dn w0 (w.setCell p u) g a len cap := h.belowB ((Below.refl _ _).setCell hp u)
theorem Dn.alloc (h : Dn w0 w g a len cap) (o : Obj) : Dn w0 (w.alloc o) g a len cap := h.below ((belowRefl w).alloc (Nat.le_refl _) o)
theorem Dn.drew (h : Dn w0 w g a len cap) : Dn w0 w.drew g a len cap := h.below ((belowRefl w).drew)
theorem Dn.size (h : Dn w0 w g a len cap) : w0.heap.size ≤ w.heap.size := h.gr.size
theorem Dn.sizeLt (h : Dn w0 w g a len cap) {n : Nat} (hn : n < w0.heap.size) : n < w.heap.size := Nat.lt_of_lt_of_le hn h.gr.size
/-- behind a new cursor that was drawn from nothing that was there has turned -/
theorem Dn.out {B : Nat} (h : Dn w0 w g a len cap) (hB : Below B w' w0) (hg : B ≤ g) (hs : B ≤ w0.heap.size) : Below B w' w :=
  hB.grown h.gr hs (fun j hj => by cases hj; exact hg)
theorem GOwn.keptD {α : Type} {E : Enc α} {e : TypeId} {base : Nat} {v : Value} {l : List α} (h : GOwn E e w base v l) (d : Dn w w' g a len cap) (hlt : g < base) : GOwn E e w' base v l :=
  World.ownsRow.kept h d.gr (by
    cases e : v.ownBlock with
    | none => exact Or.inl rfl
    | some k => right; intro e2; have := (World.ownsRow.lt h k e).1; have := Option.some.inj e2; omega)
end

section
variable {w w' : World} {b : Nat} {cs : List Value}
theorem Bx.keptD {g len cap : Nat} {a : Option Addr} (h : Bx w b cs) (d : Dn w w' g a len cap) (hne : b ≠ g) : Bx w' b cs := h.grown d.gr hne
end

end Go.Proofs.Ytjieojfcmigcdaa
