/- Keys in order, each once; what a scan tells: no Go. -/
import Derived.Test.YtpnnncfbodfnhaaGreatDoorProg
import Derived.WalkKit
import Derived.Test.YtpnnncfbodfnhaaGreatDoorPr01
import Derived.WalkSpells
import Derived.WalkLawsBesides
import Derived.Deep.QuietTactic
import Derived.BigQuiet
import Derived.Deep.RegionHeld3
import Derived.Deep.DrawnRows
import Derived.Deep.AppendLies
import Derived.Test.YtpnnncfbodfnhaaGreatDoorPr02
import Derived.Deep.RegionHeld
import Derived.Shelf.Small.Strs
import Derived.Shelf.Small.Wraps
import Derived.Test.YtpnnncfbodfnhaaGreatDoorPr04
import Derived.Test.YtpnnncfbodfnhaaGreatDoorPr16
import Derived.Test.YtpnnncfbodfnhaaGreatDoorPr12
import Derived.Lib.SlicesCompact
import Derived.Sort.Walk0
import Derived.Sort.OwnSorted
import Derived.Lib.RowBridge
import Derived.Test.YtpnnncfbodfnhaaGreatDoorPr05
import Derived.Lib.ItoaNum
import Derived.Lib.ItoaLen
import Derived.Test.YtpnnncfbodfnhaaGreatDoorPr08
namespace Go.Proofs.YtpnnncfbodfnhaaGreatDoor
namespace VM
open KM
section
variable {α : Type} [Inhabited α] [DecidableEq α]
end

theorem ba_eta (b : ByteArray) : (⟨b.data.toList.toArray⟩ : ByteArray) = b := by
 obtain ⟨⟨l⟩⟩ := b
 rfl
theorem lt_iff (a b : ByteArray) : lt a b = true ↔ a.data.toList < b.data.toList := by
 unfold lt
 rw [bytesLess_eq, toList_data, toList_data, decide_eq_true_eq]
theorem lt_tr (a b c : ByteArray) (h1 : lt a b = true) (h2 : lt b c = true) : lt a c = true := by
 rw [lt_iff] at *
 exact List.lt_trans h1 h2
theorem lt_total {a b : ByteArray} (h : a ≠ b) : lt a b = true ∨ lt b a = true := by
 cases h1 : lt a b
 ·exact Or.inr (less_total _ _ h1 (fun e => h (toList_inj e)))
 ·exact Or.inl rfl
def insK (l : List ByteArray) (k : ByteArray) : List ByteArray := l.filter (fun y => lt y k) ++ [k] ++ l.filter (fun y => lt k y)
theorem ins_spec {l : List ByteArray} {k : ByteArray} (h : l.Pairwise (fun a b => lt a b = true)) : (insK l k).Pairwise (fun a b => lt a b = true) ∧ ∀ x, x ∈ insK l k ↔ x = k ∨ x ∈ l := by
 unfold insK
 constructor
 ·rw [List.pairwise_append, List.pairwise_append]
  refine ⟨⟨h.filter _, by simp, fun x hx y hy => ?_⟩, h.filter _, fun x hx y hy => ?_⟩
  ·rw [List.mem_singleton.1 hy]; exact (List.mem_filter.1 hx).2
  ·have hy' := (List.mem_filter.1 hy).2
   rcases List.mem_append.1 hx with hx | hx
   ·exact lt_tr _ _ _ (List.mem_filter.1 hx).2 hy'
   ·rw [List.mem_singleton.1 hx]; exact hy'
 ·intro x
  simp only [List.mem_append, List.mem_filter, List.mem_singleton]
  constructor
  ·rintro ((⟨hx, _⟩ | rfl) | ⟨hx, _⟩)
   ·exact Or.inr hx
   ·exact Or.inl rfl
   ·exact Or.inr hx
  ·rintro (rfl | hx)
   ·exact Or.inl (Or.inr rfl)
   ·by_cases e : x = k
    ·exact Or.inl (Or.inr e)
    ·rcases lt_total e with h1 | h1
     ·exact Or.inl (Or.inl ⟨hx, h1⟩)
     ·exact Or.inr ⟨hx, h1⟩

end VM
end Go.Proofs.YtpnnncfbodfnhaaGreatDoor

namespace Go.Proofs.YtpnnncfbodfnhaaGreatDoor
open Go.RowKit
open KM
open VM Go.Sort
attribute [local go_sem ↓] Go.wp_at_zero Go.wp_at_succ

theorem wpAppV {ops : Array Oper} {rest : List Oper} {o : Oper} {a : Act} {Q : Exit → Act → World → Prop} (hgd : o.guard = none) (s x : Operand) (ho : o.op = .call { callee := .builtin .append, args := #[s, x], argTypes := #[39, 39] })
  {W : World} {base : Nat} {v : Value} {xs : List Vr} (y : Vr) (hs : a.eval s = v) (hown : GOwn encV 106 W base v xs)
  (hx : a.eval x = .slice (some ⟨W.heap.size, 0, none⟩) 1 1) (hlen : xs.length ≤ 100000000) (hB : base ≤ W.heap.size)
  (h : ∀ v' w', GOwn encV 106 w' base v' (xs ++ [y]) → Below base W w' → wpList Tryz.prog ops Q rest (a.put o.dst v') w') :
  wpList Tryz.prog ops Q (o :: rest) a (W.alloc (.cells #[.string y.1, .string y.2.1, .bool y.2.2.1, .int .i64 y.2.2.2] 106)) := by
 refine wpAppG 39 106 4 48 _ Tryz.underlying39 Tryz.info106 rfl (by omega) (by omega) hgd s x ho (encV.enc y) hs (World.ownsRow.alloc hown _) hx (heapAllocNew W _ _) rfl oneV (by omega) (by simp; omega) ?_
 intro g' cap w' h1 h2
 refine h _ w' ?_ (((Below.refl _ _).alloc hB _).trans h2)
 have e : encV.cells (xs ++ [y]) = encV.cells xs ++ encV.enc y := by rw [encV.cells_app]; simp [Enc.cells]
 unfold GOwn
 rw [e, List.length_append]
 exact h1

end Go.Proofs.YtpnnncfbodfnhaaGreatDoor

namespace Go.Proofs.YtpnnncfbodfnhaaGreatDoor
open Go.RowKit
open KM
open VM Go.Sort
attribute [local go_sem ↓] Go.wp_at_zero Go.wp_at_succ

end Go.Proofs.YtpnnncfbodfnhaaGreatDoor

namespace Go.Proofs.YtpnnncfbodfnhaaGreatDoor
open Go.RowKit
open KM
attribute [local go_sem ↓] Go.wp_at_zero Go.wp_at_succ

def CodeOk (w : World) (a : Option Addr) (len g : Nat) : Prop :=
 0 < len → ∃ b off, a = some ⟨b, off, none⟩ ∧ b < w.heap.size ∧ b ≠ g ∧ ∀ i, i < len → ∃ z : Int, 0 ≤ z ∧ z ≤ 255 ∧ w.cell? ⟨b, off + i, none⟩ = some (.int .u8 z)

structure Cur (w : World) (g : Nat) (a : Option Addr) (len cap : Nat) (i h : Int) : Prop where
 c0 : w.cell? ⟨g, 0, none⟩ = some (.slice a len cap)
 c1 : w.cell? ⟨g, 1, none⟩ = some (.int .i64 i)
 c2 : w.cell? ⟨g, 2, none⟩ = some (.int .i64 h)
 free : ∀ j, w.frozen? ⟨g, j, none⟩ = false
 i0 : 0 ≤ i
 i1 : i ≤ (len : Int)

theorem CodeOk.grown {w w' : World} {a : Option Addr} {len g : Nat} (h : CodeOk w a len g) (hg : w.grownBy w' (some g)) : CodeOk w' a len g := fun hl => by
 obtain ⟨b, off, ha, hb, hne, hz⟩ := h hl
 refine ⟨b, off, ha, Nat.lt_of_lt_of_le hb hg.size, hne, fun i hi => ?_⟩
 obtain ⟨z, h0, h1, hc⟩ := hz i hi
 exact ⟨z, h0, h1, (World.cell?_of_block (w := w) (a := ⟨b, off + i, none⟩) (hg.block b hb (fun e => hne (Option.some.inj e)))).trans hc⟩

theorem Cur.drewN {w : World} {g len cap : Nat} {a : Option Addr} {i h : Int} (c : Cur w g a len cap i h) (n : Nat) : Cur (w.drewN n) g a len cap i h := ⟨c.c0, c.c1, c.c2, c.free, c.i0, c.i1⟩

def CurOk (w : World) (g : Nat) (a : Option Addr) (len cap : Nat) : Prop := ∃ i h, Cur w g a len cap i h ∧ CodeOk w a len g

theorem CurOk.below {w w' : World} {g len cap : Nat} {a : Option Addr} (h : CurOk w g a len cap) (hb : Below w.heap.size w w') (hg : g < w.heap.size) : CurOk w' g a len cap := by
 obtain ⟨i, x, c, k⟩ := h
 refine ⟨i, x, ⟨(hb.cell (p := ⟨g, 0, none⟩) hg).trans c.c0, (hb.cell (p := ⟨g, 1, none⟩) hg).trans c.c1, (hb.cell (p := ⟨g, 2, none⟩) hg).trans c.c2, fun j => (hb.frozen (p := ⟨g, j, none⟩) hg).trans (c.free j), c.i0, c.i1⟩, fun hl => ?_⟩
 obtain ⟨b, off, ha, hb1, hne, hz⟩ := k hl
 refine ⟨b, off, ha, Nat.lt_of_lt_of_le hb1 hb.size, hne, fun j hj => ?_⟩
 obtain ⟨z, h0, h1, hc⟩ := hz j hj
 exact ⟨z, h0, h1, (hb.cell (p := ⟨b, off + j, none⟩) hb1).trans hc⟩

def CodeRow (w : World) (a : Option Addr) (len : Nat) : Prop :=
 0 < len → ∃ b off, a = some ⟨b, off, none⟩ ∧ b < w.heap.size ∧ ∀ i, i < len → ∃ z : Int, 0 ≤ z ∧ z ≤ 255 ∧ w.cell? ⟨b, off + i, none⟩ = some (.int .u8 z)

theorem CodeRow.below {w w' : World} {a : Option Addr} {len : Nat} (h : CodeRow w a len) (hb : Below w.heap.size w w') : CodeRow w' a len := fun hl => by
 obtain ⟨b, off, ha, hb1, hz⟩ := h hl
 refine ⟨b, off, ha, Nat.lt_of_lt_of_le hb1 hb.size, fun j hj => ?_⟩
 obtain ⟨z, h0, h1, hc⟩ := hz j hj
 exact ⟨z, h0, h1, (hb.cell (p := ⟨b, off + j, none⟩) hb1).trans hc⟩

structure CurI (w : World) (g : Nat) (a : Option Addr) (len cap : Nat) : Prop where
 c : CurOk w g a len cap
 lt : g < w.heap.size
 sm : len ≤ 1048576
theorem CurI.below {w w' : World} {g len cap : Nat} {a : Option Addr} (h : CurI w g a len cap) (hb : Below w.heap.size w w') : CurI w' g a len cap :=
 ⟨h.c.below hb h.lt, Nat.lt_of_lt_of_le h.lt hb.size, h.sm⟩
theorem CurI.drew {w : World} {g len cap : Nat} {a : Option Addr} (h : CurI w g a len cap) : CurI w.drew g a len cap := h.below ((belowRefl w).drew)
theorem CurI.alloc {w : World} {g len cap : Nat} {a : Option Addr} (h : CurI w g a len cap) (o : Obj) : CurI (w.alloc o) g a len cap := h.below ((belowRefl w).alloc (Nat.le_refl _) o)

def OldC (w0 : World) (g : Nat) (a : Option Addr) (len : Nat) : Prop := g < w0.heap.size ∧ ∀ b off, a = some ⟨b, off, none⟩ → 0 < len → b < w0.heap.size
theorem CurI.old {w : World} {g len cap : Nat} {a : Option Addr} (h : CurI w g a len cap) : OldC w g a len :=
 ⟨h.lt, fun b off e hl => by
  obtain ⟨i, x, c, k⟩ := h.c
  obtain ⟨b', off', ha, hb, _⟩ := k hl
  rw [e] at ha
  cases ha
  exact hb⟩
theorem OldC.le {w w' : World} {g len : Nat} {a : Option Addr} (h : OldC w g a len) (hs : w.heap.size ≤ w'.heap.size) : OldC w' g a len :=
 ⟨Nat.lt_of_lt_of_le h.1 hs, fun b off e hl => Nat.lt_of_lt_of_le (h.2 b off e hl) hs⟩

theorem CurOk.belowB {w w' : World} {g len cap B : Nat} {a : Option Addr} (h : CurOk w g a len cap) (hb : Below B w w') (hg : g < B) (hcode : ∀ b off, a = some ⟨b, off, none⟩ → 0 < len → b < B) : CurOk w' g a len cap := by
 obtain ⟨i, x, c, k⟩ := h
 refine ⟨i, x, ⟨(hb.cell (p := ⟨g, 0, none⟩) hg).trans c.c0, (hb.cell (p := ⟨g, 1, none⟩) hg).trans c.c1, (hb.cell (p := ⟨g, 2, none⟩) hg).trans c.c2, fun j => (hb.frozen (p := ⟨g, j, none⟩) hg).trans (c.free j), c.i0, c.i1⟩, fun hl => ?_⟩
 obtain ⟨b, off, ha, hb1, hne, hz⟩ := k hl
 refine ⟨b, off, ha, Nat.lt_of_lt_of_le hb1 hb.size, hne, fun j hj => ?_⟩
 obtain ⟨z, h0, h1, hc⟩ := hz j hj
 exact ⟨z, h0, h1, (hb.cell (p := ⟨b, off + j, none⟩) (hcode b off ha hl)).trans hc⟩
theorem grown_belowB {w w2 w3 : World} {g B : Nat} (h : w.grownBy w2 (some g)) (hb : Below B w2 w3) (hB : w.heap.size ≤ B) : w.grownBy w3 (some g) :=
 ⟨hb.os.trans h.os, hb.tape.trans h.tape, hb.output.trans h.output, Nat.le_trans h.size hb.size, fun j hj hne => (hb.block j (by omega)).trans (h.block j hj hne)⟩

structure Dn (w0 w : World) (g : Nat) (a : Option Addr) (len cap : Nat) : Prop where
 c : CurI w g a len cap
 gr : w0.grownBy w (some g)
 old : OldC w0 g a len
section
variable {w0 w w' : World} {g len cap : Nat} {a : Option Addr}
theorem Dn.start (h : CurI w g a len cap) : Dn w w g a len cap := ⟨h, grown_refl _ _, h.old⟩
theorem Dn.step (h : Dn w0 w g a len cap) (h2 : Dn w w' g a len cap) : Dn w0 w' g a len cap := ⟨h2.c, grown_trans h.gr h2.gr, h.old⟩
theorem Dn.belowB (h : Dn w0 w g a len cap) (hb : Below w0.heap.size w w') : Dn w0 w' g a len cap :=
 ⟨⟨h.c.c.belowB hb h.old.1 h.old.2, Nat.lt_of_lt_of_le h.c.lt hb.size, h.c.sm⟩, grown_belowB h.gr hb (Nat.le_refl _), h.old⟩
theorem Dn.below (h : Dn w0 w g a len cap) (hb : Below w.heap.size w w') : Dn w0 w' g a len cap := h.belowB (hb.mono h.gr.size)
theorem Dn.set (h : Dn w0 w g a len cap) {p : Addr} (hp : w0.heap.size ≤ p.block) (u : Value) : Dn w0 (w.setCell p u) g a len cap := h.belowB ((Below.refl _ _).setCell hp u)
theorem Dn.alloc (h : Dn w0 w g a len cap) (o : Obj) : Dn w0 (w.alloc o) g a len cap := h.below ((belowRefl w).alloc (Nat.le_refl _) o)
theorem Dn.drew (h : Dn w0 w g a len cap) : Dn w0 w.drew g a len cap := h.below ((belowRefl w).drew)
theorem Dn.size (h : Dn w0 w g a len cap) : w0.heap.size ≤ w.heap.size := h.gr.size
theorem Dn.out {B : Nat} (h : Dn w0 w g a len cap) (hB : Below B w' w0) (hg : B ≤ g) (hs : B ≤ w0.heap.size) : Below B w' w :=
 hB.grown h.gr hs (fun j hj => by cases hj; exact hg)
end

section
variable {w w' : World} {b : Nat} {cs : List Value}
end

end Go.Proofs.YtpnnncfbodfnhaaGreatDoor

namespace Go.Proofs.YtpnnncfbodfnhaaGreatDoor
open Go.RowKit
open KM
attribute [local go_sem ↓] Go.wp_at_zero Go.wp_at_succ

def KeyD (s : ByteArray) : Prop := keyB s = true ∧ s.size ≤ 3
def RgD (r : Rg) : Prop := KeyD r.1 ∧ KeyD r.2 ∧ le r.1 r.2 = true
theorem le_of_not_lt {x y : ByteArray} (h : Op.bytesLess x.toList y.toList = false) : le y x = true := by rw [← not_lt, h]; rfl
theorem le_of_lt {x y : ByteArray} (h : Op.bytesLess x.toList y.toList = true) : le x y = true := by unfold le; rw [h]; rfl

end Go.Proofs.YtpnnncfbodfnhaaGreatDoor

namespace Go.Proofs.YtpnnncfbodfnhaaGreatDoor
open Go.RowKit
open KM
attribute [local go_sem ↓] Go.wp_at_zero Go.wp_at_succ

theorem wone {s t : ByteArray} {b : Bool} : ∀ u ∈ ([.string s, .string t, .bool b] : List Value), u.oneCell' = true := by
 intro u hu
 simp only [List.mem_cons, List.not_mem_nil, or_false] at hu
 rcases hu with rfl | rfl | rfl <;> rfl
theorem rone {s t : ByteArray} : ∀ u ∈ ([.string s, .string t] : List Value), u.oneCell' = true := by
 intro u hu
 simp only [List.mem_cons, List.not_mem_nil, or_false] at hu
 rcases hu with rfl | rfl <;> rfl

theorem wpAppW {ops : Array Oper} {rest : List Oper} {o : Oper} {a : Act} {Q : Exit → Act → World → Prop} (hgd : o.guard = none) (s x : Operand) (ho : o.op = .call { callee := .builtin .append, args := #[s, x], argTypes := #[36, 36] })
  {W : World} {base : Nat} {v : Value} {xs : List Wt} (y : Wt) (hs : a.eval s = v) (hown : GOwn encW 111 W base v xs)
  (hx : a.eval x = .slice (some ⟨W.heap.size, 0, none⟩) 1 1) (hlen : xs.length ≤ 100000000) (hB : base ≤ W.heap.size)
  (h : ∀ v' w', GOwn encW 111 w' base v' (xs ++ [y]) → Below base W w' → wpList Tryz.prog ops Q rest (a.put o.dst v') w') :
  wpList Tryz.prog ops Q (o :: rest) a (W.alloc (.cells #[.string y.1, .string y.2.1, .bool y.2.2] 111)) := by
 refine wpAppG 36 111 3 40 _ Tryz.underlying36 Tryz.info111 rfl (by omega) (by omega) hgd s x ho (encW.enc y) hs (World.ownsRow.alloc hown _) hx (heap_alloc_new W _) rfl wone (by omega) (by simp; omega) ?_
 intro g' cap w' h1 h2
 refine h _ w' ?_ (((Below.refl _ _).alloc hB _).trans h2)
 have e : encW.cells (xs ++ [y]) = encW.cells xs ++ encW.enc y := by rw [encW.cells_app]; simp [Enc.cells]
 unfold GOwn
 rw [e, List.length_append]
 exact h1
end Go.Proofs.YtpnnncfbodfnhaaGreatDoor

namespace Go.Proofs.YtpnnncfbodfnhaaGreatDoor
open Go.RowKit
open KM
attribute [local go_sem ↓] Go.wp_at_zero Go.wp_at_succ

def WtD (x : Wt) : Prop := writeB x = true ∧ x.1.size ≤ 3 ∧ x.2.1.size ≤ 3
def Asc (xs : List Wt) : Prop := xs.Pairwise fun a b => lt a.1 b.1 = true
def WsD (xs : List Wt) : Prop := (∀ x ∈ xs, WtD x) ∧ Asc xs

theorem WsD.fit {xs : List Wt} (h : WsD xs) : WFit xs := fun x hx => ⟨by have := (h.1 x hx).2.1; omega, by have := (h.1 x hx).2.2; omega⟩

end Go.Proofs.YtpnnncfbodfnhaaGreatDoor

namespace Go.Proofs.YtpnnncfbodfnhaaGreatDoor
open Go.RowKit
open KM
attribute [local go_sem ↓] Go.wp_at_zero Go.wp_at_succ

theorem wpAppR {ops : Array Oper} {rest : List Oper} {o : Oper} {a : Act} {Q : Exit → Act → World → Prop} (hgd : o.guard = none) (s x : Operand) (ho : o.op = .call { callee := .builtin .append, args := #[s, x], argTypes := #[35, 35] })
  {W : World} {base : Nat} {v : Value} {xs : List Rg} (y : Rg) (hs : a.eval s = v) (hown : GOwn encR 109 W base v xs)
  (hx : a.eval x = .slice (some ⟨W.heap.size, 0, none⟩) 1 1) (hlen : xs.length ≤ 100000000) (hB : base ≤ W.heap.size)
  (h : ∀ v' w', GOwn encR 109 w' base v' (xs ++ [y]) → Below base W w' → wpList Tryz.prog ops Q rest (a.put o.dst v') w') :
  wpList Tryz.prog ops Q (o :: rest) a (W.alloc (.cells #[.string y.1, .string y.2] 109)) := by
 refine wpAppG 35 109 2 32 _ Tryz.underlying35 Tryz.info109 rfl (by omega) (by omega) hgd s x ho (encR.enc y) hs (World.ownsRow.alloc hown _) hx (heap_alloc_new W _) rfl rone (by omega) (by simp; omega) ?_
 intro g' cap w' h1 h2
 refine h _ w' ?_ (((Below.refl _ _).alloc hB _).trans h2)
 have e : encR.cells (xs ++ [y]) = encR.cells xs ++ encR.enc y := by rw [encR.cells_app]; simp [Enc.cells]
 unfold GOwn
 rw [e, List.length_append]
 exact h1

def RsD (xs : List Rg) : Prop := ∀ x ∈ xs, RgD x
theorem RsD.fit {xs : List Rg} (h : RsD xs) : RFit xs := fun x hx => ⟨by have := (h x hx).1.2; omega, by have := (h x hx).2.1.2; omega⟩

end Go.Proofs.YtpnnncfbodfnhaaGreatDoor

namespace Go.Proofs.YtpnnncfbodfnhaaGreatDoor
open Go.RowKit
open KM
attribute [local go_sem ↓] Go.wp_at_zero Go.wp_at_succ

theorem Tryz.info5 : (Tryz.prog.info? 5).map (fun i => (i.zero, i.size, i.bytes)) = some (some (.int .u8 0), 1, 1) := by kernel_rfl
def bv (l : List UInt8) : List Value := l.map fun b => Value.int .u8 (b.toNat : Int)
theorem bv_len (l : List UInt8) : (bv l).length = l.length := by simp [bv]
def Own (w : World) (base : Nat) (v : Value) (l : List UInt8) : Prop := w.ownsRow base 5 1 v l.length (bv l)
theorem Own.str {w : World} {base : Nat} {v : Value} {l : List UInt8} (h : Own w base v l) :
  (convert 55 9 v).run Tryz.prog w = .ok (.string ⟨l.toArray⟩) w := by
 have h0 := h
 rcases h.2 with ⟨rfl, h1⟩ | ⟨g, cap, cur, rfl, hg, hh, hnc, hcp, hcs, htake⟩
 ·obtain rfl : l = [] := List.length_eq_zero_iff.1 h1
  rw [run_convert_bytes_string w 55 9 5 none 0 0 Tryz.underlying55 Tryz.underlying5 Tryz.underlying9]
  rfl
 ·refine run_convert_bytes_back (P := Tryz.prog) w 55 9 5 ⟨g, 0, none⟩ cap l Tryz.underlying55 Tryz.underlying5 Tryz.underlying9 ?_
  intro j hj
  rw [Addr.add_lit, Nat.zero_add, World.ownsRow.cellAt h0 j (by omega)]
  simp [bv, hj]
end Go.Proofs.YtpnnncfbodfnhaaGreatDoor

namespace Go.Proofs.YtpnnncfbodfnhaaGreatDoor
open Go.RowKit
open KM
attribute [local go_sem ↓] Go.wp_at_zero Go.wp_at_succ

theorem conv1 (wr : World) (b : UInt8) (x : Int) (hx : x = (b.toNat : Int)) : (convert 55 9 (.slice (some ⟨wr.heap.size, 0, none⟩) 1 1)).run Tryz.prog (wr.alloc (.cells #[.int .u8 x] 5)) = .ok (.string ⟨#[b]⟩) (wr.alloc (.cells #[.int .u8 x] 5)) := by
 subst hx
 have h : Own (wr.alloc (.cells #[.int .u8 (b.toNat : Int)] 5)) wr.heap.size (.slice (some ⟨wr.heap.size, 0, none⟩) 1 1) [b] :=
  World.ownsRow_lit (size := 1) wr #[.int .u8 (b.toNat : Int)] 1 (Nat.le_refl _) (by unfold maxLen; omega) rfl
 exact h.str
set_option maxRecDepth 100000 in
set_option maxHeartbeats 1000000 in
theorem mark87 (N : Nat) (h0 : 0 < N) (h1 : N ≤ 1000000000000000000) (w : World) : Calls Tryz.prog 115 #[.int .i64 N] w fun e w' => e = .returned (.string (mkB N)) ∧ Below w.heap.size w w' := by
 have hd : decide ((N : Int) ≤ 0) = false := by simp; omega
 go_enter Tryz.func115, Tryz.ntmps115
 go_wp2
 go_loopw [0, 3] (fun t v wr => ∃ (m : Nat) (s : ByteArray), m ≤ N ∧ t = .int .i64 m ∧ v = .string s ∧ Hid (dd m ++ s.data.toList = dd N) ∧ Below w.heap.size w wr) (fun t _ _ => (intOf t).toNat)
 case atStart => exact ⟨N, ⟨#[]⟩, Nat.le_refl _, rfl, rfl, by show _ = _; simp, Below.refl _ _⟩
 case round =>
  obtain ⟨m, s, hm, rfl, rfl, HE, hb⟩ := hrel
  have hsz := round_size (by omega) HE.out
  by_cases hpos : 0 < m
  ·have hpos' : (0 : Int) < (m : Int) := by omega
   have HE2 : Hid _ := dd_round hpos HE.out
   have hcv := conv1 wr (UInt8.ofNat (48 + m % 10)) (48 + (m : Int) % 10) (by rw [toNat_ofNat _ (by omega)]; omega)
   have hsz2 : (⟨#[UInt8.ofNat (48 + m % 10)]⟩ : ByteArray).size ≤ 1 := Nat.le_refl _
   go_wp2
   go_roundw
   case rel => exact ⟨m / 10, _, by omega, by go_num, rfl, by first | exact HE2 | (have := HE2.out; simpa [Hid] using this), hb.alloc hb.size _⟩
   case measure => simp [intOf]; omega
  ·have hne : ¬ (0 : Int) < (m : Int) := by omega
   have HS : Hid (s.data.toList = dd N) := by
    have h := HE.out
    rw [show m = 0 by omega] at h
    exact h
   go_wp2
   go_ret
   refine ⟨ret_str ?_, hb⟩
   rw [app_data, HS.out, mkB, app_data]
end Go.Proofs.YtpnnncfbodfnhaaGreatDoor

namespace Go.Proofs.YtpnnncfbodfnhaaGreatDoor
open Go.RowKit

theorem Own.snoc {w : World} {base : Nat} {v : Value} {pre : List UInt8} {x : Int} (b : UInt8)
  (h : w.ownsRow base 5 1 v (pre.length + 1) (bv pre ++ [.int .u8 x])) (hx : x = (b.toNat : Int)) : Own w base v (pre ++ [b]) := by
 subst hx
 unfold Own
 simpa [bv] using h

theorem Own.nil (w : World) (base : Nat) : Own w base (.slice none 0 0) [] := World.ownsRow_nil _ _ _ _

theorem Own.empty (w : World) (base : Nat) (hb : base ≤ w.heap.size) : Own (w.alloc (.cells #[] 5)) base (.slice (some ⟨w.heap.size, 0, none⟩) 0 0) [] :=
 World.ownsRow_lit (size := 1) w #[] 0 hb (by unfold maxLen; omega) rfl

theorem wpApp {ops : Array Oper} {rest : List Oper} {o : Oper} {a : Act} {Q : Exit → Act → World → Prop} (hgd : o.guard = none) (s x : Operand)
  (ho : o.op = .call { callee := .builtin .append, args := #[s, x], argTypes := #[55, 55] }) {wr : World} {cs : Array Value} (w0 : World) {base : Nat} {v : Value} {pre : List UInt8} (news : List UInt8)
  (hs : a.eval s = v) (hown : Own wr base v pre) (hx : a.eval x = .slice (some ⟨wr.heap.size, 0, none⟩) news.length news.length) (hcs : cs.toList = bv news)
  (hlen : pre.length + news.length ≤ 140737488355328) (hb : Below base w0 wr) (hB : base ≤ w0.heap.size)
  (h : ∀ v' w', Own w' base v' (pre ++ news) → Below base w0 w' → (wr.alloc (.cells cs 5)).grownBy w' v.ownBlock → wpList Tryz.prog ops Q rest (a.put o.dst v') w') :
  wpList Tryz.prog ops Q (o :: rest) a (wr.alloc (.cells cs 5)) := by
 obtain ⟨i0, hi, hz0, hz1, hz2⟩ := info_parts Tryz.info5
 have hsz := hb.size
 refine wpList_append_own _ hgd s x 55 ho base 5 i0 (.int .u8 0) 1 1 Tryz.underlying55 hi hz0 hz1 hz2 rfl (by decide) v pre.length (bv pre) hs (World.ownsRow.alloc hown _) ⟨wr.heap.size, 0, none⟩ news.length news.length (bv news) hx (by rw [bv_len]; omega) ?_ ?_ (by unfold maxLen; omega) (by omega) (by simp; omega) ?_
 ·intro j u hj
  have hc : (wr.alloc (.cells cs 5)).cell? ⟨wr.heap.size, j, none⟩ = cs[j]? := World.cell?_alloc_mark wr cs 5 (0, 0) j
  rw [Addr.add_lit, Nat.zero_add, hc, ← hj, ← hcs]
  simp
 ·intro u hu
  simp only [bv, List.mem_map] at hu
  obtain ⟨b, _, rfl⟩ := hu
  rfl
 ·intro v' w' h1 h2 _
  refine h v' w' ?_ ((hb.alloc (by omega) _).grown h2 (by simp; omega) (fun j hj => (World.ownsRow.lt hown j hj).1)) h2
  unfold Own
  simpa [bv] using h1

theorem byteCell (x : Int) (b : UInt8) (h : x = (b.toNat : Int)) : #[Value.int .u8 x].toList = bv [b] := by subst h; rfl
theorem ofNatCell (x : Int) (n : Nat) (hn : n < 256) (h : x = (n : Int)) : #[Value.int .u8 x].toList = bv [UInt8.ofNat n] := byteCell _ _ (by rw [toNat_ofNat n hn]; exact h)

end Go.Proofs.YtpnnncfbodfnhaaGreatDoor

namespace Go.Proofs.YtpnnncfbodfnhaaGreatDoor
open Go.RowKit

theorem pre_len {n m : Nat} {pre : List UInt8} (hn : n ≤ 1000000000) (h : pre ++ WM.varL m = WM.varL n) : pre.length ≤ 10 := by
 have h1 := WM.varL_len5 n (by omega)
 have h2 := congrArg List.length h
 simp at h2
 omega

set_option maxHeartbeats 400000 in
theorem var28 (n : Nat) (hn : n ≤ 1000000000) (w : World) :
  Calls Tryz.prog 55 #[.int .i64 n] w fun e w' => e = .returned (.string ⟨(WM.varL n).toArray⟩) ∧ Below w.heap.size w w' := by
 go_enter Tryz.func55, Tryz.ntmps55
 go_wp2
 go_loopw [0, 3] (fun t v wr => ∃ (m : Nat) (pre : List UInt8), m ≤ n ∧ t = .int .i64 m ∧ Own wr w.heap.size v pre ∧ Hid (pre ++ WM.varL m = WM.varL n) ∧ Below w.heap.size w wr) (fun t _ _ => (intOf t).toNat)
 case atStart =>
  exact ⟨n, [], Nat.le_refl _, rfl, Own.empty _ _ (Nat.le_refl _), rfl, (Below.refl _ _).alloc (Nat.le_refl _) _⟩
 case round =>
  obtain ⟨m, pre, hm, rfl, hown, HE, hb⟩ := hrel
  have hlen := pre_len hn HE.out
  by_cases hlt : 127 < m
  ·go_wp2_with (at_builtin; refine wpApp rfl _ _ rfl w [UInt8.ofNat (m % 128 + 128)] rfl hown rfl (ofNatCell _ _ (by omega) (by omega)) (by simp; omega) hb (Nat.le_refl _) ?_)
   intro v' w1 hown1 hb1 _
   clear hown hb
   go_wp2
   go_roundw
   case rel => exact ⟨m / 128, _, by omega, by go_num, hown1, by have := HE.out; rw [WM.varL_big m hlt] at this; simpa [Hid] using this, hb1⟩
   case measure => simp [intOf]; omega
  ·go_wp2_with (at_builtin; refine wpApp rfl _ _ rfl w [UInt8.ofNat m] rfl hown rfl (ofNatCell _ _ (by omega) (by omega)) (by simp; omega) hb (Nat.le_refl _) ?_)
   intro v' w1 hown1 hb1 _
   clear hown hb
   have hst := hown1.str
   go_wp2
   go_ret
   refine ⟨?_, hb1⟩
   have := HE.out
   rw [WM.varL_small m (by omega)] at this
   rw [this]
   rfl

end Go.Proofs.YtpnnncfbodfnhaaGreatDoor

namespace Go.Proofs.YtpnnncfbodfnhaaGreatDoor
open Go.RowKit

def rvV (at' : Nat) : Option (Nat × Nat) → Value
 | none => .tuple #[.int .i64 0, .int .i64 0, .bool false]
 | some (n, k) => .tuple #[.int .i64 (n : Int), .int .i64 ((at' + k : Nat) : Int), .bool true]

set_option maxHeartbeats 400000 in
theorem irv_no (s : ByteArray) (p : Int) (h : p < 0 ∨ (s.size : Int) < p) (hs : s.size ≤ 1048576) (w : World) :
  Calls Tryz.prog 107 #[.string s, .int .i64 p] w fun e w' => e = .returned (rvV 0 none) ∧ w' = w := by
 rcases h with h | h
 ·go_enter Tryz.func107, Tryz.ntmps107
  go_wp2
  go_ret3
  exact ⟨rfl, rfl⟩
 ·have h0 : 0 ≤ p := by omega
  go_enter Tryz.func107, Tryz.ntmps107
  go_wp2
  go_ret3
  exact ⟨rfl, rfl⟩

theorem drop_at (s : ByteArray) (q : Nat) (h : q < s.size) : s.data.toList.drop q = s[q] :: s.data.toList.drop (q + 1) := by
 rw [List.drop_eq_getElem_cons (by simpa using h)]
 rfl

theorem rv_hi {s : ByteArray} {p k N W : Nat} {R : Option (Nat × Nat)} (hk : k < 5) (hlt : p + k < s.size) (hW : W = 128 ^ k) (hx : (127 : Int) < (s[p + k].toNat : Int))
  (h : WM.rvGo (5 - k) N k (s.data.toList.drop (p + k)) = R) : WM.rvGo (5 - (k + 1)) (N + s[p + k].toNat % 128 * W) (k + 1) (s.data.toList.drop (p + (k + 1))) = R := by
 rw [drop_at s (p + k) hlt, show 5 - k = (5 - (k + 1)) + 1 by omega] at h
 rw [WM.rvGo, if_neg (by omega), ← hW] at h
 exact h

theorem rv_lo {s : ByteArray} {p k N W : Nat} {R : Option (Nat × Nat)} (hk : k < 5) (hlt : p + k < s.size) (hW : W = 128 ^ k) (hx : (s[p + k].toNat : Int) ≤ 127)
  (h : WM.rvGo (5 - k) N k (s.data.toList.drop (p + k)) = R) :
  (if 1000000000 < N + s[p + k].toNat % 128 * W ∨ (s[p + k].toNat = 0 ∧ 0 < k) then none else some (N + s[p + k].toNat % 128 * W, k + 1)) = R := by
 rw [drop_at s (p + k) hlt, show 5 - k = (5 - (k + 1)) + 1 by omega] at h
 rw [WM.rvGo, if_pos (by omega), ← hW] at h
 exact h

theorem rv_out {s : ByteArray} {p k N : Nat} {R : Option (Nat × Nat)} (hlt : ¬ p + k < s.size)
  (h : WM.rvGo (5 - k) N k (s.data.toList.drop (p + k)) = R) : R = none := by
 rw [List.drop_of_length_le (by simp only [Array.length_toList]; exact Nat.le_of_not_lt hlt)] at h
 rw [← h]
 cases 5 - k <;> simp [WM.rvGo]

theorem rv_five {s : ByteArray} {p k N : Nat} {R : Option (Nat × Nat)} (hk : k = 5)
  (h : WM.rvGo (5 - k) N k (s.data.toList.drop (p + k)) = R) : R = none := by
 subst hk
 rw [← h]
 rfl

theorem mul_bd (x W : Nat) (hW : W ≤ 34359738368) : 0 ≤ (x : Int) % 128 * (W : Int) ∧ (x : Int) % 128 * (W : Int) ≤ 4398046511104 := by
 have h1 : x % 128 * W ≤ 128 * 34359738368 := Nat.mul_le_mul (by omega) hW
 have h2 : ((x % 128 * W : Nat) : Int) = (x : Int) % 128 * (W : Int) := by simp
 rw [← h2]
 omega

theorem mul_cast (N x W : Nat) : (N : Int) + (x : Int) % 128 * (W : Int) = ((N + x % 128 * W : Nat) : Int) := by simp

theorem mul_zero' (N W x : Nat) (h : x = 0) : (N : Int) + (x : Int) % 128 * (W : Int) = (N : Int) := by subst h; simp

theorem mul_lt (N x W : Nat) (h : N < W) : N + x % 128 * W < W * 128 := by
 have : x % 128 * W ≤ 127 * W := Nat.mul_le_mul_right _ (by omega)
 omega

theorem pow_five {k W : Nat} (hW : W = 128 ^ k) (hk : k ≤ 5) (h : ¬ W ≤ 1000000000) : k = 5 := by
 rcases (show k = 0 ∨ k = 1 ∨ k = 2 ∨ k = 3 ∨ k = 4 ∨ k = 5 by omega) with rfl | rfl | rfl | rfl | rfl | rfl <;> omega

theorem pow_lt {k W : Nat} (hW : W = 128 ^ k) (hk : k ≤ 5) (h : W ≤ 1000000000) : k < 5 := by
 rcases (show k = 0 ∨ k = 1 ∨ k = 2 ∨ k = 3 ∨ k = 4 ∨ k = 5 by omega) with rfl | rfl | rfl | rfl | rfl | rfl <;> omega

theorem ret_rv {p : Nat} {R : Option (Nat × Nat)} {a b : Int} {c : Bool} {r : Option (Nat × Nat)} (h : r = R) (e : rvV p r = .tuple #[.int .i64 a, .int .i64 b, .bool c]) :
  Ending.returned (.tuple #[.int .i64 a, .int .i64 b, .bool c]) = .returned (rvV p R) := by rw [← h, e]

set_option maxHeartbeats 400000 in
theorem irv (s : ByteArray) (p : Nat) (h : p ≤ s.size) (hs : s.size ≤ 1048576) (w : World) :
  Calls Tryz.prog 107 #[.string s, .int .i64 p] w fun e w' => e = .returned (rvV p (WM.rv (s.data.toList.drop p))) ∧ w' = w := by
 have h0 : (0 : Int) ≤ (p : Int) := by omega
 have h1 : (p : Int) ≤ (s.size : Int) := by omega
 have hd0 : decide ((p : Int) < 0) = false := by simp
 have hd1 : decide (s.size < p) = false := by simp; omega
 go_enter Tryz.func107, Tryz.ntmps107
 go_wp2
 go_loop [7, 8, 9] (fun tn tw ti => ∃ k N W : Nat, k ≤ 5 ∧ p + k ≤ s.size ∧ ti = .int .i64 ((p + k : Nat) : Int) ∧ tn = .int .i64 (N : Int) ∧ tw = .int .i64 (W : Int) ∧ Hid (W = 128 ^ k) ∧ N < W ∧ Hid (WM.rvGo (5 - k) N k (s.data.toList.drop (p + k)) = WM.rv (s.data.toList.drop p))) (fun _ _ ti => s.size - (intOf ti).toNat)
 case atStart =>
  exact ⟨0, 0, 1, by omega, by omega, rfl, rfl, rfl, rfl, by omega, rfl⟩
 case round =>
  obtain ⟨k, N, W, hk, hpk, rfl, rfl, rfl, HW, hN, HE⟩ := hrel
  have hWb : W ≤ 34359738368 := by
   rw [HW.out]
   exact Nat.le_trans (Nat.pow_le_pow_right (by omega) hk) (by omega)
  by_cases hlt : p + k < s.size
  ·have hlt' : (p : Int) + (k : Int) < (s.size : Int) := by omega
   by_cases hk5 : W ≤ 1000000000
   ·have hk5' : (W : Int) ≤ 1000000000 := by omega
    have hklt := pow_lt HW.out hk hk5
    have hP := mul_bd s[p + k].toNat W hWb
    have hP1 := hP.1
    have hP2 := hP.2
    clear hP
    by_cases hx : (127 : Int) < (s[p + k].toNat : Int)
    ·have HE2 := rv_hi hklt hlt HW.out hx HE.out
     have HE3 : Hid _ := HE2
     clear HE2
     go_wp2
     go_round
     case rel =>
      refine ⟨k + 1, N + s[p + k].toNat % 128 * W, W * 128, by omega, by omega, by go_num, by rw [← mul_cast], by simp, ?_, mul_lt _ _ _ hN, HE3⟩
      show W * 128 = 128 ^ (k + 1)
      rw [HW.out, Nat.pow_succ]
     case measure => simp [intOf]; omega
    ·have hx' : (s[p + k].toNat : Int) ≤ 127 := by omega
     have HE2 := rv_lo hklt hlt HW.out hx' HE.out
     have HE3 : Hid _ := HE2
     clear HE2 hx
     by_cases hbig : 1000000000 < (N : Int) + (s[p + k].toNat : Int) % 128 * (W : Int)
     ·go_wp2
      go_ret3
      refine ⟨ret_rv HE3.out ?_, rfl⟩
      rw [if_pos (Or.inl (by rw [mul_cast] at hbig; omega))]
      rfl
     ·have hbig' : (N : Int) + (s[p + k].toNat : Int) % 128 * (W : Int) ≤ 1000000000 := by omega
      have hbn : ¬ 1000000000 < N + s[p + k].toNat % 128 * W := by rw [mul_cast] at hbig'; omega
      have HB : Hid (¬ 1000000000 < N + s[p + k].toNat % 128 * W) := hbn
      clear hbn hbig
      by_cases hz : (s[p + k].toNat : Int) ≤ 0
      ·by_cases hk0 : 0 < k
       ·go_wp2
        go_ret3
        refine ⟨ret_rv HE3.out ?_, rfl⟩
        rw [if_pos (Or.inr ⟨by omega, hk0⟩)]
        rfl
       ·go_wp2
        go_ret3
        refine ⟨ret_rv HE3.out ?_, rfl⟩
        rw [if_neg (by have := HB.out; omega)]
        simp only [rvV]
        rw [← mul_cast, mul_zero' N W s[p + k].toNat (by omega)]
        rfl
      ·go_wp2
       go_ret3
       refine ⟨ret_rv HE3.out ?_, rfl⟩
       rw [if_neg (by have := HB.out; omega)]
       simp only [rvV]
       rw [← mul_cast]
       rfl
   ·have := pow_five HW.out hk hk5
    have hk5' : decide ((W : Int) ≤ 1000000000) = false := by simp; omega
    have HE2 := rv_five this HE.out
    have HE3 : Hid _ := HE2
    clear HE2 this
    go_wp2
    go_ret3
    exact ⟨by rw [HE3.out]; rfl, rfl⟩
  ·have hlt' : decide ((p : Int) + (k : Int) < (s.size : Int)) = false := by simp; omega
   have HE2 := rv_out hlt HE.out
   have HE3 : Hid _ := HE2
   clear HE2
   go_wp2
   go_ret3
   exact ⟨by rw [HE3.out]; rfl, rfl⟩
end Go.Proofs.YtpnnncfbodfnhaaGreatDoor
