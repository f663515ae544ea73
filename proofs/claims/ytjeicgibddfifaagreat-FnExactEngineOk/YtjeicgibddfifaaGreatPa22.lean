/- Those that are open: Ids that ascend. -/
import Derived.Test.YtjeicgibddfifaaGreatPa18
import Derived.Deep.RegionHeld3
import Derived.Deep.Cut
import Derived.Deep.CutRange
import Derived.Laws.EntriesVeiled
import Derived.Test.YtjeicgibddfifaaGreatProg
import Derived.WalkKit
import Derived.Test.YtjeicgibddfifaaGreatPa01
import Derived.WalkSpells
import Derived.WalkLawsBesides
import Derived.Deep.QuietTactic
import Derived.BigQuiet
import Derived.Deep.DrawnRows
import Derived.Deep.AppendLies
import Derived.Test.YtjeicgibddfifaaGreatPa02
import Derived.Test.YtjeicgibddfifaaGreatPa03
import Derived.Test.YtjeicgibddfifaaGreatPa08
import Derived.Deep.RegionHeld
import Derived.Test.YtjeicgibddfifaaGreatPa05
import Derived.Maps.OwnSet
import Derived.StringKeys
import Derived.Test.YtjeicgibddfifaaGreatPa07
import Derived.Sort.OwnSorted
import Derived.Lib.RowBridge
import Derived.Test.YtjeicgibddfifaaGreatPa09
import Derived.Lib.ItoaNum
import Derived.Lib.ItoaLen
import Derived.Test.YtjeicgibddfifaaGreatPa12
import Derived.Test.YtjeicgibddfifaaGreatPa04
import Derived.Test.YtjeicgibddfifaaGreatPa10
namespace Go.Proofs.YtjeicgibddfifaaGreat
open Go.RowKit
open KM
attribute [local go_sem ↓] Go.wp_at_zero Go.wp_at_succ

set_option maxRecDepth 100000 in
set_option maxHeartbeats 2000000 in
theorem asc67 (xs : List Ta) (a : Option Addr) (c n : Nat) (hx : n = xs.length) (hn : n ≤ 10000000) (w : World) (hp : TRows w a xs) :
  Calls Tryz.prog 64 #[.agg #[.slice a n c, .func (.func 105) #[] #[]]] w fun e w' => e = .returned (.bool (ascIB (xs.map fun x : Ta => x.t.id))) ∧ Below w.heap.size w w' := by
 have HB0 : Hid (Below w.heap.size w (w.alloc (.cells #[.slice a n c, .func (.func 105) #[] #[]] 102))) := (belowRefl w).alloc (Nat.le_refl _) _
 have H := hide (keys67 xs a c n hx hn (w.alloc (.cells #[.slice a n c, .func (.func 105) #[] #[]] 102)) (hp.below HB0.out))
 have HX : Hid (n = (xs.map fun x : Ta => x.t.id).length) := by show _ = _; rw [List.length_map, hx]
 clear hp hx
 go_enter Tryz.func64, Tryz.ntmps64
 go_wp2_with fail
 refine H.out.mono ?_
 rintro e w1 ⟨a1, c1, rfl, ho, hb1⟩
 have HB1 : Hid (Below w.heap.size w w1) := HB0.out.trans (hb1.mono HB0.out.size)
 have RO : Hid (GRow encI w1 a1 (xs.map fun x : Ta => x.t.id)) := by have h := ho; rw [HX.out] at h; exact h.grow
 clear ho hb1 H
 go_wp2_with fail
 refine (asc59 (xs.map fun x : Ta => x.t.id) a1 c1 n HX.out (by omega) _ RO.out).mono ?_
 rintro e w2 ⟨rfl, hb2⟩
 have HB2 : Hid (Below w.heap.size w w2) := HB1.out.trans (hb2.mono HB1.out.size)
 clear hb2
 go_wp2
 go_ret
 exact ⟨rfl, HB2.out⟩

end Go.Proofs.YtjeicgibddfifaaGreat

namespace Go.Proofs.YtjeicgibddfifaaGreat
open Go.RowKit
open KM
attribute [local go_sem ↓] Go.wp_at_zero Go.wp_at_succ

end Go.Proofs.YtjeicgibddfifaaGreat

namespace Go.Proofs.YtjeicgibddfifaaGreat
open Go.RowKit Go.WideMaps Go.Maps
open KM
attribute [local go_sem ↓] Go.wp_at_zero Go.wp_at_succ

end Go.Proofs.YtjeicgibddfifaaGreat

namespace Go.Proofs.YtjeicgibddfifaaGreat
open Go.RowKit
open KM
attribute [local go_sem ↓] Go.wp_at_zero Go.wp_at_succ

end Go.Proofs.YtjeicgibddfifaaGreat

namespace Go.Proofs.YtjeicgibddfifaaGreat
open Go.RowKit
open KM
attribute [local go_sem ↓] Go.wp_at_zero Go.wp_at_succ

def CodeOk (w : World) (a : Option Addr) (len g : Nat) : Prop :=
 0 < len → ∃ b off, a = some ⟨b, off, none⟩ ∧ b < w.heap.size ∧ b ≠ g ∧ ∀ i, i < len → ∃ z : Int, 0 ≤ z ∧ z ≤ 255 ∧ w.cell? ⟨b, off + i, none⟩ = some (.int .u8 z)

structure Cur (w : World) (g : Nat) (a : Option Addr) (len cap : Nat) (i h : Int) : Prop where
 c0 : w.cell? ⟨g, 0, none⟩ = some (.slice a len cap)
 c1 : w.cell? ⟨g, 1, none⟩ = some (.int .i64 i)
 c2 : w.cell? ⟨g, 2, none⟩ = some (.int .i64 h)
 free : ∀ j, w.frozen? ⟨g, j, none⟩ = false
 i0 : 0 ≤ i
 i1 : i ≤ (len : Int)

theorem CodeOk.grown {w w' : World} {a : Option Addr} {len g : Nat} (h : CodeOk w a len g) (hg : w.grownBy w' (some g)) : CodeOk w' a len g := fun hl => by
 obtain ⟨b, off, ha, hb, hne, hz⟩ := h hl
 refine ⟨b, off, ha, Nat.lt_of_lt_of_le hb hg.size, hne, fun i hi => ?_⟩
 obtain ⟨z, h0, h1, hc⟩ := hz i hi
 exact ⟨z, h0, h1, (World.cell?_of_block (w := w) (a := ⟨b, off + i, none⟩) (hg.block b hb (fun e => hne (Option.some.inj e)))).trans hc⟩

theorem Cur.drewN {w : World} {g len cap : Nat} {a : Option Addr} {i h : Int} (c : Cur w g a len cap i h) (n : Nat) : Cur (w.drewN n) g a len cap i h := ⟨c.c0, c.c1, c.c2, c.free, c.i0, c.i1⟩

def CurOk (w : World) (g : Nat) (a : Option Addr) (len cap : Nat) : Prop := ∃ i h, Cur w g a len cap i h ∧ CodeOk w a len g

theorem CurOk.below {w w' : World} {g len cap : Nat} {a : Option Addr} (h : CurOk w g a len cap) (hb : Below w.heap.size w w') (hg : g < w.heap.size) : CurOk w' g a len cap := by
 obtain ⟨i, x, c, k⟩ := h
 refine ⟨i, x, ⟨(hb.cell (p := ⟨g, 0, none⟩) hg).trans c.c0, (hb.cell (p := ⟨g, 1, none⟩) hg).trans c.c1, (hb.cell (p := ⟨g, 2, none⟩) hg).trans c.c2, fun j => (hb.frozen (p := ⟨g, j, none⟩) hg).trans (c.free j), c.i0, c.i1⟩, fun hl => ?_⟩
 obtain ⟨b, off, ha, hb1, hne, hz⟩ := k hl
 refine ⟨b, off, ha, Nat.lt_of_lt_of_le hb1 hb.size, hne, fun j hj => ?_⟩
 obtain ⟨z, h0, h1, hc⟩ := hz j hj
 exact ⟨z, h0, h1, (hb.cell (p := ⟨b, off + j, none⟩) hb1).trans hc⟩

def CodeRow (w : World) (a : Option Addr) (len : Nat) : Prop :=
 0 < len → ∃ b off, a = some ⟨b, off, none⟩ ∧ b < w.heap.size ∧ ∀ i, i < len → ∃ z : Int, 0 ≤ z ∧ z ≤ 255 ∧ w.cell? ⟨b, off + i, none⟩ = some (.int .u8 z)

theorem CodeRow.below {w w' : World} {a : Option Addr} {len : Nat} (h : CodeRow w a len) (hb : Below w.heap.size w w') : CodeRow w' a len := fun hl => by
 obtain ⟨b, off, ha, hb1, hz⟩ := h hl
 refine ⟨b, off, ha, Nat.lt_of_lt_of_le hb1 hb.size, fun j hj => ?_⟩
 obtain ⟨z, h0, h1, hc⟩ := hz j hj
 exact ⟨z, h0, h1, (hb.cell (p := ⟨b, off + j, none⟩) hb1).trans hc⟩

structure CurI (w : World) (g : Nat) (a : Option Addr) (len cap : Nat) : Prop where
 c : CurOk w g a len cap
 lt : g < w.heap.size
 sm : len ≤ 1048576
theorem CurI.below {w w' : World} {g len cap : Nat} {a : Option Addr} (h : CurI w g a len cap) (hb : Below w.heap.size w w') : CurI w' g a len cap :=
 ⟨h.c.below hb h.lt, Nat.lt_of_lt_of_le h.lt hb.size, h.sm⟩
theorem CurI.drew {w : World} {g len cap : Nat} {a : Option Addr} (h : CurI w g a len cap) : CurI w.drew g a len cap := h.below ((belowRefl w).drew)
theorem CurI.alloc {w : World} {g len cap : Nat} {a : Option Addr} (h : CurI w g a len cap) (o : Obj) : CurI (w.alloc o) g a len cap := h.below ((belowRefl w).alloc (Nat.le_refl _) o)

def OldC (w0 : World) (g : Nat) (a : Option Addr) (len : Nat) : Prop := g < w0.heap.size ∧ ∀ b off, a = some ⟨b, off, none⟩ → 0 < len → b < w0.heap.size
theorem CurI.old {w : World} {g len cap : Nat} {a : Option Addr} (h : CurI w g a len cap) : OldC w g a len :=
 ⟨h.lt, fun b off e hl => by
  obtain ⟨i, x, c, k⟩ := h.c
  obtain ⟨b', off', ha, hb, _⟩ := k hl
  rw [e] at ha
  cases ha
  exact hb⟩
theorem OldC.le {w w' : World} {g len : Nat} {a : Option Addr} (h : OldC w g a len) (hs : w.heap.size ≤ w'.heap.size) : OldC w' g a len :=
 ⟨Nat.lt_of_lt_of_le h.1 hs, fun b off e hl => Nat.lt_of_lt_of_le (h.2 b off e hl) hs⟩

theorem CurOk.belowB {w w' : World} {g len cap B : Nat} {a : Option Addr} (h : CurOk w g a len cap) (hb : Below B w w') (hg : g < B) (hcode : ∀ b off, a = some ⟨b, off, none⟩ → 0 < len → b < B) : CurOk w' g a len cap := by
 obtain ⟨i, x, c, k⟩ := h
 refine ⟨i, x, ⟨(hb.cell (p := ⟨g, 0, none⟩) hg).trans c.c0, (hb.cell (p := ⟨g, 1, none⟩) hg).trans c.c1, (hb.cell (p := ⟨g, 2, none⟩) hg).trans c.c2, fun j => (hb.frozen (p := ⟨g, j, none⟩) hg).trans (c.free j), c.i0, c.i1⟩, fun hl => ?_⟩
 obtain ⟨b, off, ha, hb1, hne, hz⟩ := k hl
 refine ⟨b, off, ha, Nat.lt_of_lt_of_le hb1 hb.size, hne, fun j hj => ?_⟩
 obtain ⟨z, h0, h1, hc⟩ := hz j hj
 exact ⟨z, h0, h1, (hb.cell (p := ⟨b, off + j, none⟩) (hcode b off ha hl)).trans hc⟩
theorem grown_belowB {w w2 w3 : World} {g B : Nat} (h : w.grownBy w2 (some g)) (hb : Below B w2 w3) (hB : w.heap.size ≤ B) : w.grownBy w3 (some g) :=
 ⟨hb.os.trans h.os, hb.tape.trans h.tape, hb.output.trans h.output, Nat.le_trans h.size hb.size, fun j hj hne => (hb.block j (by omega)).trans (h.block j hj hne)⟩

structure Dn (w0 w : World) (g : Nat) (a : Option Addr) (len cap : Nat) : Prop where
 c : CurI w g a len cap
 gr : w0.grownBy w (some g)
 old : OldC w0 g a len
section
variable {w0 w w' : World} {g len cap : Nat} {a : Option Addr}
theorem Dn.belowB (h : Dn w0 w g a len cap) (hb : Below w0.heap.size w w') : Dn w0 w' g a len cap :=
 ⟨⟨h.c.c.belowB hb h.old.1 h.old.2, Nat.lt_of_lt_of_le h.c.lt hb.size, h.c.sm⟩, grown_belowB h.gr hb (Nat.le_refl _), h.old⟩
theorem Dn.below (h : Dn w0 w g a len cap) (hb : Below w.heap.size w w') : Dn w0 w' g a len cap := h.belowB (hb.mono h.gr.size)
theorem Dn.set (h : Dn w0 w g a len cap) {p : Addr} (hp : w0.heap.size ≤ p.block) (u : Value) : Dn w0 (w.setCell p u) g a len cap := h.belowB ((Below.refl _ _).setCell hp u)
theorem Dn.alloc (h : Dn w0 w g a len cap) (o : Obj) : Dn w0 (w.alloc o) g a len cap := h.below ((belowRefl w).alloc (Nat.le_refl _) o)
theorem Dn.drew (h : Dn w0 w g a len cap) : Dn w0 w.drew g a len cap := h.below ((belowRefl w).drew)
theorem Dn.size (h : Dn w0 w g a len cap) : w0.heap.size ≤ w.heap.size := h.gr.size
theorem Dn.out {B : Nat} (h : Dn w0 w g a len cap) (hB : Below B w' w0) (hg : B ≤ g) (hs : B ≤ w0.heap.size) : Below B w' w :=
 hB.grown h.gr hs (fun j hj => by cases hj; exact hg)
end

section
variable {w w' : World} {b : Nat} {cs : List Value}
end

end Go.Proofs.YtjeicgibddfifaaGreat

namespace Go.Proofs.YtjeicgibddfifaaGreat
open Go.RowKit
open KM
attribute [local go_sem ↓] Go.wp_at_zero Go.wp_at_succ

def KeyD (s : ByteArray) : Prop := keyB s = true ∧ s.size ≤ 3
def RgD (r : Rg) : Prop := KeyD r.1 ∧ KeyD r.2 ∧ le r.1 r.2 = true
end Go.Proofs.YtjeicgibddfifaaGreat

namespace Go.Proofs.YtjeicgibddfifaaGreat
open Go.RowKit
open KM
attribute [local go_sem ↓] Go.wp_at_zero Go.wp_at_succ

end Go.Proofs.YtjeicgibddfifaaGreat

namespace Go.Proofs.YtjeicgibddfifaaGreat
open Go.RowKit
open KM
attribute [local go_sem ↓] Go.wp_at_zero Go.wp_at_succ

def WtD (x : Wt) : Prop := writeB x = true ∧ x.1.size ≤ 3 ∧ x.2.1.size ≤ 3
def Asc (xs : List Wt) : Prop := xs.Pairwise fun a b => lt a.1 b.1 = true
def WsD (xs : List Wt) : Prop := (∀ x ∈ xs, WtD x) ∧ Asc xs

theorem WsD.fit {xs : List Wt} (h : WsD xs) : WFit xs := fun x hx => ⟨by have := (h.1 x hx).2.1; omega, by have := (h.1 x hx).2.2; omega⟩

end Go.Proofs.YtjeicgibddfifaaGreat

namespace Go.Proofs.YtjeicgibddfifaaGreat
open Go.RowKit
open KM
attribute [local go_sem ↓] Go.wp_at_zero Go.wp_at_succ

def RsD (xs : List Rg) : Prop := ∀ x ∈ xs, RgD x
theorem RsD.fit {xs : List Rg} (h : RsD xs) : RFit xs := fun x hx => ⟨by have := (h x hx).1.2; omega, by have := (h x hx).2.1.2; omega⟩

end Go.Proofs.YtjeicgibddfifaaGreat

namespace Go.Proofs.YtjeicgibddfifaaGreat
open Go.RowKit
open KM
attribute [local go_sem ↓] Go.wp_at_zero Go.wp_at_succ

end Go.Proofs.YtjeicgibddfifaaGreat

namespace Go.Proofs.YtjeicgibddfifaaGreat
open Go.RowKit
open KM
attribute [local go_sem ↓] Go.wp_at_zero Go.wp_at_succ

end Go.Proofs.YtjeicgibddfifaaGreat

namespace Go.Proofs.YtjeicgibddfifaaGreat
open Go.RowKit
open KM
attribute [local go_sem ↓] Go.wp_at_zero Go.wp_at_succ
end Go.Proofs.YtjeicgibddfifaaGreat

namespace Go.Proofs.YtjeicgibddfifaaGreat
open Go.RowKit
open KM
attribute [local go_sem ↓] Go.wp_at_zero Go.wp_at_succ

end Go.Proofs.YtjeicgibddfifaaGreat

namespace Go.Proofs.YtjeicgibddfifaaGreat
open Go.RowKit
open KM
attribute [local go_sem ↓] Go.wp_at_zero Go.wp_at_succ

theorem Lies.setO {α : Type} {E : Enc α} {e : TypeId} {w : World} {lo hi : Nat} {v : Value} {xs : List α} (h : Lies E e w lo hi v xs) {a : Addr} (ha : a.block < lo ∨ hi ≤ a.block) (u : Value) : Lies E e (w.setCell a u) lo hi v xs :=
 ⟨ownsRow_setCell_other h.own (fun e => by have := h.lo _ e; omega) u, h.up⟩
theorem TLie.setO {w : World} {lo hi : Nat} {t : Tx} {ra wa : Option Addr} {rc wc : Nat} (h : TLie w lo hi t ra rc wa wc) {a : Addr} (ha : a.block < lo ∨ hi ≤ a.block) (u : Value) : TLie (w.setCell a u) lo hi t ra rc wa wc := by
 obtain ⟨m, p, q, h1, h2⟩ := h.ex
 exact ⟨m, p, q, h1.setO (by omega) u, h2.setO (by omega) u⟩
theorem Zs.setO {w : World} {v : Value} {a : Addr} (hv : v.ownBlock = some a.block) (u : Value) : ∀ {ys : List Ta} {lo hi : Nat}, Zs w v lo hi ys → Zs (w.setCell a u) v lo hi ys
 | [], _, _, h => h
 | _ :: _, _, _, ⟨p, q, h1, h2, h3, h4, h5⟩ => ⟨p, q, h1, h2, h3.setO (h4 _ hv) u, h4, h5.setO hv u⟩
theorem Zn.mono {l h l' h' : Nat} {w w' : World} (k : Zn l h w w') (h1 : l' ≤ l) (h2 : h ≤ h') : Zn l' h' w w' := ⟨k.os, k.tape, k.output, k.size, fun j hj hn => k.block j hj (by omega)⟩

end Go.Proofs.YtjeicgibddfifaaGreat
