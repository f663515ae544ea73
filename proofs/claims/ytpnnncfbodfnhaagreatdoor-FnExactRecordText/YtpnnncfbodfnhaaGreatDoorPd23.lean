/- Plain mathematics of numbers in bytes, figures and decimals: no Go in it. -/
import Derived.Lib.ItoaNum
import Derived.Test.YtpnnncfbodfnhaaGreatDoorPd11
import Derived.Test.YtpnnncfbodfnhaaGreatDoorProg
import Derived.WalkKit
import Derived.Test.YtpnnncfbodfnhaaGreatDoorPd01
import Derived.WalkSpells
import Derived.WalkLawsBesides
import Derived.Deep.QuietTactic
import Derived.BigQuiet
import Derived.Deep.RegionHeld3
import Derived.Deep.DrawnRows
import Derived.Deep.AppendLies
import Derived.Test.YtpnnncfbodfnhaaGreatDoorPd03
import Derived.Test.YtpnnncfbodfnhaaGreatDoorPd08
import Derived.Sort.OwnSorted
import Derived.Lib.RowBridge
import Derived.Deep.RegionHeld
import Derived.Shelf.Small.Strs
import Derived.Shelf.Small.Wraps
import Derived.Test.YtpnnncfbodfnhaaGreatDoorPd04
import Derived.Test.YtpnnncfbodfnhaaGreatDoorPd07
import Derived.Test.YtpnnncfbodfnhaaGreatDoorPd16
import Derived.Lib.SlicesCompact
import Derived.Sort.Walk0
import Derived.Lib.ItoaLen
import Derived.Lib.Builder
import Derived.Lib.AppendStr
import Derived.Lib.BufferWrite
namespace Go.Proofs.YtpnnncfbodfnhaaGreatDoor
namespace WM

def varF : Nat → Nat → List UInt8
 | 0, n => [UInt8.ofNat n]
 | f + 1, n => if 127 < n then UInt8.ofNat (n % 128 + 128) :: varF f (n / 128) else [UInt8.ofNat n]

def varL (n : Nat) : List UInt8 := varF n n

theorem varF_eq : ∀ f n, n ≤ f → ∀ g, n ≤ g → varF f n = varF g n := by
 intro f
 induction f with
 | zero =>
  intro n hn g hg
  obtain rfl : n = 0 := by omega
  cases g <;> simp [varF]
 | succ f ih =>
  intro n hn g hg
  cases g with
  | zero =>
   obtain rfl : n = 0 := by omega
   simp [varF]
  | succ g =>
   simp only [varF]
   by_cases h : 127 < n
   ·rw [if_pos h, if_pos h, ih (n / 128) (by omega) g (by omega)]
   ·rw [if_neg h, if_neg h]

theorem varL_big (n : Nat) (h : 127 < n) : varL n = UInt8.ofNat (n % 128 + 128) :: varL (n / 128) := by
 unfold varL
 cases n with
 | zero => omega
 | succ m =>
  rw [varF, if_pos h, varF_eq m ((m + 1) / 128) (by omega) ((m + 1) / 128) (Nat.le_refl _)]

theorem varL_small (n : Nat) (h : n ≤ 127) : varL n = [UInt8.ofNat n] := by
 unfold varL
 cases n with
 | zero => rfl
 | succ m => rw [varF, if_neg (by omega)]

theorem varL_pos (n : Nat) : 1 ≤ (varL n).length := by
 by_cases h : 127 < n
 ·rw [varL_big n h]; simp
 ·rw [varL_small n (by omega)]; simp

theorem varL_len5 (n : Nat) (h : n < 34359738368) : (varL n).length ≤ 5 := by
 have step : ∀ k m, m < k * 128 → (∀ j, j < k → (varL j).length ≤ 4) → (varL m).length ≤ 5 := by
  intro k m hm hj
  by_cases h : 127 < m
  ·rw [varL_big m h]; simp; exact hj _ (by omega)
  ·rw [varL_small m (by omega)]; simp
 have s1 : ∀ m, m < 128 → (varL m).length ≤ 1 := fun m hm => by rw [varL_small m (by omega)]; simp
 have s2 : ∀ m, m < 16384 → (varL m).length ≤ 2 := fun m hm => by
  by_cases h : 127 < m
  ·rw [varL_big m h]; have := s1 (m / 128) (by omega); simp; omega
  ·have := s1 m (by omega); omega
 have s3 : ∀ m, m < 2097152 → (varL m).length ≤ 3 := fun m hm => by
  by_cases h : 127 < m
  ·rw [varL_big m h]; have := s2 (m / 128) (by omega); simp; omega
  ·have := s1 m (by omega); omega
 have s4 : ∀ m, m < 268435456 → (varL m).length ≤ 4 := fun m hm => by
  by_cases h : 127 < m
  ·rw [varL_big m h]; have := s3 (m / 128) (by omega); simp; omega
  ·have := s1 m (by omega); omega
 exact step 268435456 n h s4

def rvGo : Nat → Nat → Nat → List UInt8 → Option (Nat × Nat)
 | 0, _, _, _ => none
 | _ + 1, _, _, [] => none
 | f + 1, n, k, b :: t =>
  if b.toNat < 128 then
   (if 1000000000 < n + b.toNat % 128 * 128 ^ k ∨ (b.toNat = 0 ∧ 0 < k) then none else some (n + b.toNat % 128 * 128 ^ k, k + 1))
  else rvGo f (n + b.toNat % 128 * 128 ^ k) (k + 1) t

def rv (l : List UInt8) : Option (Nat × Nat) := rvGo 5 0 0 l

end WM
end Go.Proofs.YtpnnncfbodfnhaaGreatDoor

namespace Go.Proofs.YtpnnncfbodfnhaaGreatDoor
namespace VM
open KM
end VM
end Go.Proofs.YtpnnncfbodfnhaaGreatDoor

namespace Go.Proofs.YtpnnncfbodfnhaaGreatDoor
namespace VM
open KM
section
variable {α : Type} [Inhabited α] [DecidableEq α]
end

theorem ba_eta (b : ByteArray) : (⟨b.data.toList.toArray⟩ : ByteArray) = b := by
 obtain ⟨⟨l⟩⟩ := b
 rfl
end VM
end Go.Proofs.YtpnnncfbodfnhaaGreatDoor

namespace Go.Proofs.YtpnnncfbodfnhaaGreatDoor
open Go.RowKit
open KM
open VM Go.Sort
attribute [local go_sem ↓] Go.wp_at_zero Go.wp_at_succ

end Go.Proofs.YtpnnncfbodfnhaaGreatDoor

namespace Go.Proofs.YtpnnncfbodfnhaaGreatDoor
open Go.RowKit
open KM
open VM Go.Sort
attribute [local go_sem ↓] Go.wp_at_zero Go.wp_at_succ

end Go.Proofs.YtpnnncfbodfnhaaGreatDoor

namespace Go.Proofs.YtpnnncfbodfnhaaGreatDoor
open Go.RowKit
open KM
attribute [local go_sem ↓] Go.wp_at_zero Go.wp_at_succ

def CodeOk (w : World) (a : Option Addr) (len g : Nat) : Prop :=
 0 < len → ∃ b off, a = some ⟨b, off, none⟩ ∧ b < w.heap.size ∧ b ≠ g ∧ ∀ i, i < len → ∃ z : Int, 0 ≤ z ∧ z ≤ 255 ∧ w.cell? ⟨b, off + i, none⟩ = some (.int .u8 z)

structure Cur (w : World) (g : Nat) (a : Option Addr) (len cap : Nat) (i h : Int) : Prop where
 c0 : w.cell? ⟨g, 0, none⟩ = some (.slice a len cap)
 c1 : w.cell? ⟨g, 1, none⟩ = some (.int .i64 i)
 c2 : w.cell? ⟨g, 2, none⟩ = some (.int .i64 h)
 free : ∀ j, w.frozen? ⟨g, j, none⟩ = false
 i0 : 0 ≤ i
 i1 : i ≤ (len : Int)

theorem CodeOk.grown {w w' : World} {a : Option Addr} {len g : Nat} (h : CodeOk w a len g) (hg : w.grownBy w' (some g)) : CodeOk w' a len g := fun hl => by
 obtain ⟨b, off, ha, hb, hne, hz⟩ := h hl
 refine ⟨b, off, ha, Nat.lt_of_lt_of_le hb hg.size, hne, fun i hi => ?_⟩
 obtain ⟨z, h0, h1, hc⟩ := hz i hi
 exact ⟨z, h0, h1, (World.cell?_of_block (w := w) (a := ⟨b, off + i, none⟩) (hg.block b hb (fun e => hne (Option.some.inj e)))).trans hc⟩

theorem Cur.drewN {w : World} {g len cap : Nat} {a : Option Addr} {i h : Int} (c : Cur w g a len cap i h) (n : Nat) : Cur (w.drewN n) g a len cap i h := ⟨c.c0, c.c1, c.c2, c.free, c.i0, c.i1⟩

def CurOk (w : World) (g : Nat) (a : Option Addr) (len cap : Nat) : Prop := ∃ i h, Cur w g a len cap i h ∧ CodeOk w a len g

theorem CurOk.below {w w' : World} {g len cap : Nat} {a : Option Addr} (h : CurOk w g a len cap) (hb : Below w.heap.size w w') (hg : g < w.heap.size) : CurOk w' g a len cap := by
 obtain ⟨i, x, c, k⟩ := h
 refine ⟨i, x, ⟨(hb.cell (p := ⟨g, 0, none⟩) hg).trans c.c0, (hb.cell (p := ⟨g, 1, none⟩) hg).trans c.c1, (hb.cell (p := ⟨g, 2, none⟩) hg).trans c.c2, fun j => (hb.frozen (p := ⟨g, j, none⟩) hg).trans (c.free j), c.i0, c.i1⟩, fun hl => ?_⟩
 obtain ⟨b, off, ha, hb1, hne, hz⟩ := k hl
 refine ⟨b, off, ha, Nat.lt_of_lt_of_le hb1 hb.size, hne, fun j hj => ?_⟩
 obtain ⟨z, h0, h1, hc⟩ := hz j hj
 exact ⟨z, h0, h1, (hb.cell (p := ⟨b, off + j, none⟩) hb1).trans hc⟩

def CodeRow (w : World) (a : Option Addr) (len : Nat) : Prop :=
 0 < len → ∃ b off, a = some ⟨b, off, none⟩ ∧ b < w.heap.size ∧ ∀ i, i < len → ∃ z : Int, 0 ≤ z ∧ z ≤ 255 ∧ w.cell? ⟨b, off + i, none⟩ = some (.int .u8 z)

theorem CodeRow.below {w w' : World} {a : Option Addr} {len : Nat} (h : CodeRow w a len) (hb : Below w.heap.size w w') : CodeRow w' a len := fun hl => by
 obtain ⟨b, off, ha, hb1, hz⟩ := h hl
 refine ⟨b, off, ha, Nat.lt_of_lt_of_le hb1 hb.size, fun j hj => ?_⟩
 obtain ⟨z, h0, h1, hc⟩ := hz j hj
 exact ⟨z, h0, h1, (hb.cell (p := ⟨b, off + j, none⟩) hb1).trans hc⟩

structure CurI (w : World) (g : Nat) (a : Option Addr) (len cap : Nat) : Prop where
 c : CurOk w g a len cap
 lt : g < w.heap.size
 sm : len ≤ 1048576
theorem CurI.below {w w' : World} {g len cap : Nat} {a : Option Addr} (h : CurI w g a len cap) (hb : Below w.heap.size w w') : CurI w' g a len cap :=
 ⟨h.c.below hb h.lt, Nat.lt_of_lt_of_le h.lt hb.size, h.sm⟩
theorem CurI.drew {w : World} {g len cap : Nat} {a : Option Addr} (h : CurI w g a len cap) : CurI w.drew g a len cap := h.below ((belowRefl w).drew)
theorem CurI.alloc {w : World} {g len cap : Nat} {a : Option Addr} (h : CurI w g a len cap) (o : Obj) : CurI (w.alloc o) g a len cap := h.below ((belowRefl w).alloc (Nat.le_refl _) o)

def OldC (w0 : World) (g : Nat) (a : Option Addr) (len : Nat) : Prop := g < w0.heap.size ∧ ∀ b off, a = some ⟨b, off, none⟩ → 0 < len → b < w0.heap.size
theorem CurI.old {w : World} {g len cap : Nat} {a : Option Addr} (h : CurI w g a len cap) : OldC w g a len :=
 ⟨h.lt, fun b off e hl => by
  obtain ⟨i, x, c, k⟩ := h.c
  obtain ⟨b', off', ha, hb, _⟩ := k hl
  rw [e] at ha
  cases ha
  exact hb⟩
theorem OldC.le {w w' : World} {g len : Nat} {a : Option Addr} (h : OldC w g a len) (hs : w.heap.size ≤ w'.heap.size) : OldC w' g a len :=
 ⟨Nat.lt_of_lt_of_le h.1 hs, fun b off e hl => Nat.lt_of_lt_of_le (h.2 b off e hl) hs⟩

theorem CurOk.belowB {w w' : World} {g len cap B : Nat} {a : Option Addr} (h : CurOk w g a len cap) (hb : Below B w w') (hg : g < B) (hcode : ∀ b off, a = some ⟨b, off, none⟩ → 0 < len → b < B) : CurOk w' g a len cap := by
 obtain ⟨i, x, c, k⟩ := h
 refine ⟨i, x, ⟨(hb.cell (p := ⟨g, 0, none⟩) hg).trans c.c0, (hb.cell (p := ⟨g, 1, none⟩) hg).trans c.c1, (hb.cell (p := ⟨g, 2, none⟩) hg).trans c.c2, fun j => (hb.frozen (p := ⟨g, j, none⟩) hg).trans (c.free j), c.i0, c.i1⟩, fun hl => ?_⟩
 obtain ⟨b, off, ha, hb1, hne, hz⟩ := k hl
 refine ⟨b, off, ha, Nat.lt_of_lt_of_le hb1 hb.size, hne, fun j hj => ?_⟩
 obtain ⟨z, h0, h1, hc⟩ := hz j hj
 exact ⟨z, h0, h1, (hb.cell (p := ⟨b, off + j, none⟩) (hcode b off ha hl)).trans hc⟩
theorem grown_belowB {w w2 w3 : World} {g B : Nat} (h : w.grownBy w2 (some g)) (hb : Below B w2 w3) (hB : w.heap.size ≤ B) : w.grownBy w3 (some g) :=
 ⟨hb.os.trans h.os, hb.tape.trans h.tape, hb.output.trans h.output, Nat.le_trans h.size hb.size, fun j hj hne => (hb.block j (by omega)).trans (h.block j hj hne)⟩

structure Dn (w0 w : World) (g : Nat) (a : Option Addr) (len cap : Nat) : Prop where
 c : CurI w g a len cap
 gr : w0.grownBy w (some g)
 old : OldC w0 g a len
section
variable {w0 w w' : World} {g len cap : Nat} {a : Option Addr}
theorem Dn.step (h : Dn w0 w g a len cap) (h2 : Dn w w' g a len cap) : Dn w0 w' g a len cap := ⟨h2.c, grown_trans h.gr h2.gr, h.old⟩
theorem Dn.belowB (h : Dn w0 w g a len cap) (hb : Below w0.heap.size w w') : Dn w0 w' g a len cap :=
 ⟨⟨h.c.c.belowB hb h.old.1 h.old.2, Nat.lt_of_lt_of_le h.c.lt hb.size, h.c.sm⟩, grown_belowB h.gr hb (Nat.le_refl _), h.old⟩
theorem Dn.below (h : Dn w0 w g a len cap) (hb : Below w.heap.size w w') : Dn w0 w' g a len cap := h.belowB (hb.mono h.gr.size)
theorem Dn.set (h : Dn w0 w g a len cap) {p : Addr} (hp : w0.heap.size ≤ p.block) (u : Value) : Dn w0 (w.setCell p u) g a len cap := h.belowB ((Below.refl _ _).setCell hp u)
theorem Dn.alloc (h : Dn w0 w g a len cap) (o : Obj) : Dn w0 (w.alloc o) g a len cap := h.below ((belowRefl w).alloc (Nat.le_refl _) o)
theorem Dn.drew (h : Dn w0 w g a len cap) : Dn w0 w.drew g a len cap := h.below ((belowRefl w).drew)
theorem Dn.size (h : Dn w0 w g a len cap) : w0.heap.size ≤ w.heap.size := h.gr.size
theorem Dn.out {B : Nat} (h : Dn w0 w g a len cap) (hB : Below B w' w0) (hg : B ≤ g) (hs : B ≤ w0.heap.size) : Below B w' w :=
 hB.grown h.gr hs (fun j hj => by cases hj; exact hg)
end

section
variable {w w' : World} {b : Nat} {cs : List Value}
end

end Go.Proofs.YtpnnncfbodfnhaaGreatDoor

namespace Go.Proofs.YtpnnncfbodfnhaaGreatDoor
open Go.RowKit
open KM
attribute [local go_sem ↓] Go.wp_at_zero Go.wp_at_succ

def KeyD (s : ByteArray) : Prop := keyB s = true ∧ s.size ≤ 3
def RgD (r : Rg) : Prop := KeyD r.1 ∧ KeyD r.2 ∧ le r.1 r.2 = true
end Go.Proofs.YtpnnncfbodfnhaaGreatDoor

namespace Go.Proofs.YtpnnncfbodfnhaaGreatDoor
open Go.RowKit
open KM
attribute [local go_sem ↓] Go.wp_at_zero Go.wp_at_succ

end Go.Proofs.YtpnnncfbodfnhaaGreatDoor

namespace Go.Proofs.YtpnnncfbodfnhaaGreatDoor
open Go.RowKit
open KM
attribute [local go_sem ↓] Go.wp_at_zero Go.wp_at_succ

def WtD (x : Wt) : Prop := writeB x = true ∧ x.1.size ≤ 3 ∧ x.2.1.size ≤ 3
def Asc (xs : List Wt) : Prop := xs.Pairwise fun a b => lt a.1 b.1 = true
def WsD (xs : List Wt) : Prop := (∀ x ∈ xs, WtD x) ∧ Asc xs

theorem WsD.fit {xs : List Wt} (h : WsD xs) : WFit xs := fun x hx => ⟨by have := (h.1 x hx).2.1; omega, by have := (h.1 x hx).2.2; omega⟩

end Go.Proofs.YtpnnncfbodfnhaaGreatDoor

namespace Go.Proofs.YtpnnncfbodfnhaaGreatDoor
open Go.RowKit
open KM
attribute [local go_sem ↓] Go.wp_at_zero Go.wp_at_succ

def RsD (xs : List Rg) : Prop := ∀ x ∈ xs, RgD x
theorem RsD.fit {xs : List Rg} (h : RsD xs) : RFit xs := fun x hx => ⟨by have := (h x hx).1.2; omega, by have := (h x hx).2.1.2; omega⟩

end Go.Proofs.YtpnnncfbodfnhaaGreatDoor

namespace Go.Proofs.YtpnnncfbodfnhaaGreatDoor
open Go.RowKit
open KM
attribute [local go_sem ↓] Go.wp_at_zero Go.wp_at_succ

theorem Tryz.info5 : (Tryz.prog.info? 5).map (fun i => (i.zero, i.size, i.bytes)) = some (some (.int .u8 0), 1, 1) := by kernel_rfl
def bv (l : List UInt8) : List Value := l.map fun b => Value.int .u8 (b.toNat : Int)
theorem bv_len (l : List UInt8) : (bv l).length = l.length := by simp [bv]
def Own (w : World) (base : Nat) (v : Value) (l : List UInt8) : Prop := w.ownsRow base 5 1 v l.length (bv l)
theorem Own.str {w : World} {base : Nat} {v : Value} {l : List UInt8} (h : Own w base v l) :
  (convert 55 9 v).run Tryz.prog w = .ok (.string ⟨l.toArray⟩) w := by
 have h0 := h
 rcases h.2 with ⟨rfl, h1⟩ | ⟨g, cap, cur, rfl, hg, hh, hnc, hcp, hcs, htake⟩
 ·obtain rfl : l = [] := List.length_eq_zero_iff.1 h1
  rw [run_convert_bytes_string w 55 9 5 none 0 0 Tryz.underlying55 Tryz.underlying5 Tryz.underlying9]
  rfl
 ·refine run_convert_bytes_back (P := Tryz.prog) w 55 9 5 ⟨g, 0, none⟩ cap l Tryz.underlying55 Tryz.underlying5 Tryz.underlying9 ?_
  intro j hj
  rw [Addr.add_lit, Nat.zero_add, World.ownsRow.cellAt h0 j (by omega)]
  simp [bv, hj]
end Go.Proofs.YtpnnncfbodfnhaaGreatDoor

namespace Go.Proofs.YtpnnncfbodfnhaaGreatDoor
open Go.RowKit
open KM
attribute [local go_sem ↓] Go.wp_at_zero Go.wp_at_succ

end Go.Proofs.YtpnnncfbodfnhaaGreatDoor

namespace Go.Proofs.YtpnnncfbodfnhaaGreatDoor
open Go.RowKit

theorem Own.snoc {w : World} {base : Nat} {v : Value} {pre : List UInt8} {x : Int} (b : UInt8)
  (h : w.ownsRow base 5 1 v (pre.length + 1) (bv pre ++ [.int .u8 x])) (hx : x = (b.toNat : Int)) : Own w base v (pre ++ [b]) := by
 subst hx
 unfold Own
 simpa [bv] using h

theorem Own.nil (w : World) (base : Nat) : Own w base (.slice none 0 0) [] := World.ownsRow_nil _ _ _ _

theorem Own.empty (w : World) (base : Nat) (hb : base ≤ w.heap.size) : Own (w.alloc (.cells #[] 5)) base (.slice (some ⟨w.heap.size, 0, none⟩) 0 0) [] :=
 World.ownsRow_lit (size := 1) w #[] 0 hb (by unfold maxLen; omega) rfl

theorem wpApp {ops : Array Oper} {rest : List Oper} {o : Oper} {a : Act} {Q : Exit → Act → World → Prop} (hgd : o.guard = none) (s x : Operand)
  (ho : o.op = .call { callee := .builtin .append, args := #[s, x], argTypes := #[55, 55] }) {wr : World} {cs : Array Value} (w0 : World) {base : Nat} {v : Value} {pre : List UInt8} (news : List UInt8)
  (hs : a.eval s = v) (hown : Own wr base v pre) (hx : a.eval x = .slice (some ⟨wr.heap.size, 0, none⟩) news.length news.length) (hcs : cs.toList = bv news)
  (hlen : pre.length + news.length ≤ 140737488355328) (hb : Below base w0 wr) (hB : base ≤ w0.heap.size)
  (h : ∀ v' w', Own w' base v' (pre ++ news) → Below base w0 w' → (wr.alloc (.cells cs 5)).grownBy w' v.ownBlock → wpList Tryz.prog ops Q rest (a.put o.dst v') w') :
  wpList Tryz.prog ops Q (o :: rest) a (wr.alloc (.cells cs 5)) := by
 obtain ⟨i0, hi, hz0, hz1, hz2⟩ := info_parts Tryz.info5
 have hsz := hb.size
 refine wpList_append_own _ hgd s x 55 ho base 5 i0 (.int .u8 0) 1 1 Tryz.underlying55 hi hz0 hz1 hz2 rfl (by decide) v pre.length (bv pre) hs (World.ownsRow.alloc hown _) ⟨wr.heap.size, 0, none⟩ news.length news.length (bv news) hx (by rw [bv_len]; omega) ?_ ?_ (by unfold maxLen; omega) (by omega) (by simp; omega) ?_
 ·intro j u hj
  have hc : (wr.alloc (.cells cs 5)).cell? ⟨wr.heap.size, j, none⟩ = cs[j]? := World.cell?_alloc_mark wr cs 5 (0, 0) j
  rw [Addr.add_lit, Nat.zero_add, hc, ← hj, ← hcs]
  simp
 ·intro u hu
  simp only [bv, List.mem_map] at hu
  obtain ⟨b, _, rfl⟩ := hu
  rfl
 ·intro v' w' h1 h2 _
  refine h v' w' ?_ ((hb.alloc (by omega) _).grown h2 (by simp; omega) (fun j hj => (World.ownsRow.lt hown j hj).1)) h2
  unfold Own
  simpa [bv] using h1

theorem byteCell (x : Int) (b : UInt8) (h : x = (b.toNat : Int)) : #[Value.int .u8 x].toList = bv [b] := by subst h; rfl
theorem ofNatCell (x : Int) (n : Nat) (hn : n < 256) (h : x = (n : Int)) : #[Value.int .u8 x].toList = bv [UInt8.ofNat n] := byteCell _ _ (by rw [toNat_ofNat n hn]; exact h)

end Go.Proofs.YtpnnncfbodfnhaaGreatDoor

namespace Go.Proofs.YtpnnncfbodfnhaaGreatDoor
open Go.RowKit
open KM
attribute [local go_sem ↓] Go.wp_at_zero Go.wp_at_succ

theorem info92 : (Tryz.prog.info? 69).map (·.size) = some 2 := by kernel_rfl
theorem lies92 : liesAt Tryz.prog Tryz.prog.depth 71 (2 / Tryz.prog.cellsOf 71) 0 69 1 = true := by kernel_rfl

theorem toU (b : Nat) (w : World) (hsh : w.shape? b = some (71, 2)) : (convert 67 174 (.pointer (some ⟨b, 0, none⟩))).run Tryz.prog w = .ok (.pointer (some ⟨b, 0, none⟩)) w := by
 obtain ⟨j, hj, hjs⟩ := Option.map_eq_some_iff.1 info92
 have hz : j.size ≠ 0 := by rw [hjs]; decide
 simp [convert, run_underlying Tryz.underlying67, run_underlying Tryz.underlying174, Conv.unsafePointer, Conv.seenAt, viewAt, cellsIn, hsh, sizeOf, typeInfo, hj, hz]
theorem fromU (b : Nat) (w : World) (hsh : w.shape? b = some (71, 2)) : (convert 174 67 (.pointer (some ⟨b, 0, none⟩))).run Tryz.prog w = .ok (.pointer (some ⟨b, 0, none⟩)) w := by
 obtain ⟨j, hj, _⟩ := Option.map_eq_some_iff.1 info92
 have hl := lies92
 simp [convert, run_underlying Tryz.underlying67, run_underlying Tryz.underlying174, Conv.unsafePointer, Conv.seenAt, viewAt, hsh, variablesAt, hl, sizeOf, typeInfo, hj]

set_option maxHeartbeats 1000000 in
set_option maxRecDepth 100000 in
theorem check85_used (b : Nat) (w : World) (h0 : w.cell? ⟨b, 0, none⟩ = some (.pointer (some ⟨b, 0, none⟩))) :
  Calls Tryz.prog 100 #[.pointer (some ⟨b, 0, none⟩)] w fun e w' => e = .returned (.tuple #[]) ∧ w' = w := by
 obtain ⟨j, hj, _⟩ := Option.map_eq_some_iff.1 info92
 go_enter Tryz.func100, Tryz.ntmps100
 go_wp2
 rw [Lib.run_neq_ptr_same w _ Tryz.underlying67 hj]
 go_wp2
 go_end0
 exact ⟨rfl, rfl⟩

set_option maxHeartbeats 1000000 in
set_option maxRecDepth 100000 in
theorem check85_fresh (b : Nat) (w : World) (h0 : w.cell? ⟨b, 0, none⟩ = some (.pointer none)) (hsh : w.shape? b = some (71, 2)) (hfz : w.frozen? ⟨b, 0, none⟩ = false) :
  Calls Tryz.prog 100 #[.pointer (some ⟨b, 0, none⟩)] w fun e w' => e = .returned (.tuple #[]) ∧ w' = w.setCell ⟨b, 0, none⟩ (.pointer (some ⟨b, 0, none⟩)) := by
 obtain ⟨j, hj, hjs⟩ := Option.map_eq_some_iff.1 info92
 go_enter Tryz.func100, Tryz.ntmps100
 go_wp2
 rw [toU b w hsh]
 simp only [Result.andThen]
 rw [Oper.upon_value]
 go_wp2
 rw [run_callFunc_extern Tryz.func117 (by kernel_rfl) (by kernel_rfl) (by kernel_rfl) (e := Extern.AbiNoEscape.same) (by kernel_rfl)]
 rw [Lib.run_noEscape]
 simp only [Result.andThen]
 rw [Oper.upon_value]
 go_wp2
 rw [fromU b w hsh]
 simp only [Result.andThen]
 rw [Oper.upon_value]
 go_wp2
 go_end0
 exact ⟨rfl, rfl⟩

def Keep5 (b : Nat) (w w' : World) : Prop := ∀ e0 cs T z, e0 ≠ b → T ≠ 5 → w.heap[e0]? = some (.cells cs T z) → w'.heap[e0]? = some (.cells cs T z)
theorem Keep5.trans {b : Nat} {w1 w2 w3 : World} (h : Keep5 b w1 w2) (k : Keep5 b w2 w3) : Keep5 b w1 w3 := fun e0 cs T z h1 h2 h3 => k e0 cs T z h1 h2 (h e0 cs T z h1 h2 h3)
theorem Keep5.below {b : Nat} {w w' : World} (h : Below w.heap.size w w') : Keep5 b w w' := fun e0 cs T z _ _ h3 => by
 rw [h.block e0 (Array.getElem?_eq_some_iff.1 h3).1]; exact h3
theorem Keep5.set (b k : Nat) (w : World) (v : Value) : Keep5 b w (w.setCell ⟨b, k, none⟩ v) := fun e0 cs T z h1 _ h3 => by
 rw [Below.heap_setCell _ _ _ _ (fun e => h1 e)]; exact h3
theorem check85 (B b : Nat) (bs : List Value) (w : World) (h : Lib.IsBuilder 71 5 B b bs w) :
  Calls Tryz.prog 100 #[.pointer (some ⟨b, 0, none⟩)] w fun e w' => e = .returned (.tuple #[]) ∧ (Lib.BuilderAt 71 5 B b (.pointer (some ⟨b, 0, none⟩)) bs w' ∧ Below B w w' ∧ Keep5 b w w') := by
 rcases h with h | h
 ·refine (check85_fresh b w h.cell0 h.shape h.frozen0).mono ?_
  rintro e w' ⟨rfl, rfl⟩
  exact ⟨rfl, h.used _, (Below.refl B w).setCell (p := ⟨b, 0, none⟩) h.1 _, Keep5.set b 0 w _⟩
 ·refine (check85_used b w h.cell0).mono ?_
  rintro e w' ⟨rfl, rfl⟩
  exact ⟨rfl, h, Below.refl B _, fun _ _ _ _ _ _ h => h⟩

set_option maxHeartbeats 2000000 in
set_option maxRecDepth 100000 in
theorem write69 (B b : Nat) (l : List UInt8) (s : ByteArray) (w : World) (h : Lib.IsBuilder 71 5 B b (bv l) w) (hlen : l.length + s.size ≤ 1000000000) (hBw : B ≤ w.heap.size) :
  Calls Tryz.prog 64 #[.pointer (some ⟨b, 0, none⟩), .string s] w fun e w' => e = .returned (.tuple #[.int .i64 s.size, .nilIface]) ∧ (Lib.BuilderAt 71 5 B b (.pointer (some ⟨b, 0, none⟩)) (bv (l ++ s.data.toList)) w' ∧ Below B w w' ∧ Keep5 b w w') := by
 obtain ⟨i0, hi, hz0, hz1, hz2⟩ := info_parts Tryz.info5
 have hl := bv_len l
 have HL : Hid ((bv l).length = l.length) := hl
 have HI : Hid (Lib.IsBuilder 71 5 B b (bv l) w) := h
 clear hl h
 go_enter Tryz.func64, Tryz.ntmps64
 go_wp2_with (go_at_call 100; refine (check85 B b (bv l) _ HI.out).mono ?_)
 rintro e w1 ⟨rfl, h1, hb1, hk1⟩
 have HK1 : Hid (Keep5 b w w1) := hk1
 clear hk1
 obtain ⟨hB, v, hbk, hown, hne⟩ := h1
 have c0 : w1.cell? ⟨b, 0, none⟩ = some (.pointer (some ⟨b, 0, none⟩)) := by rw [Lib.cell_of_heap hbk]; rfl
 have c1 : w1.cell? ⟨b, 1, none⟩ = some v := by rw [Lib.cell_of_heap hbk]; rfl
 have hBw1 : B ≤ w1.heap.size := Nat.le_trans hBw hb1.size
 go_wp2_with (at_builtin; refine Lib.wpList_append_own_string _ rfl _ _ 55 9 rfl B 5 i0 Tryz.underlying55 Tryz.underlying9 hi hz0 hz1 hz2 _ _ _ rfl hown s rfl ?c3 ?c4 ?c5 ?_)
 case c3 => rw [HL.out]; unfold maxLen; omega
 case c4 => rw [HL.out]; omega
 case c5 => exact hBw1
 intro v' w2 hown' hgrow _
 have HK2 : Hid (Keep5 b w1 w2) := fun e0 cs T z h1 h2 h3 => by
  rw [hgrow.block e0 (Array.getElem?_eq_some_iff.1 h3).1 (fun e => Lib.ownBlock_ne hown h3 h2 e.symm)]; exact h3
 have hlt : b < w1.heap.size := by
  rcases Nat.lt_or_ge b w1.heap.size with h' | h'
  ·exact h'
  ·simp [Array.getElem?_eq_none h'] at hbk
 have hb2 : w2.heap[b]? = some (.cells #[.pointer (some ⟨b, 0, none⟩), v] 71 (0, 0)) := by
  rw [hgrow.block b hlt (fun e => hne e.symm)]
  exact hbk
 have d0 : w2.cell? ⟨b, 0, none⟩ = some (.pointer (some ⟨b, 0, none⟩)) := by rw [Lib.cell_of_heap hb2]; rfl
 have d1 : w2.cell? ⟨b, 1, none⟩ = some v := by rw [Lib.cell_of_heap hb2]; rfl
 have f1 : w2.frozen? ⟨b, 1, none⟩ = false := Lib.frozen_of_heap hb2 1
 obtain ⟨ao, n', cap, rfl⟩ : ∃ ao n' cap, v' = .slice ao n' cap := by
  rcases hown'.2 with ⟨hv, _⟩ | ⟨g, cap, cur, hv, _⟩
  ·exact ⟨_, _, _, hv⟩
  ·exact ⟨_, _, _, hv⟩
 have e1 : bv (l ++ s.data.toList) = bv l ++ Lib.strCells s := by
  unfold bv Lib.strCells
  rw [List.map_append]
 have E1 : Hid (bv (l ++ s.data.toList) = bv l ++ Lib.strCells s) := e1
 clear e1
 go_wp2
 go_ret2
 refine ⟨rfl, ?_, ?_, (HK1.out.trans HK2.out).trans (Keep5.set b 1 _ _)⟩
 ·rw [E1.out]
  exact Lib.BuilderAt.put (T := 71) (e := 5) hB hb2 (bs' := bv l ++ Lib.strCells s) (by simpa [Lib.strCells_length] using hown') (by decide)
 ·exact (hb1.grown hgrow hBw1 (fun k hk => (hown.lt k hk).1)).setCell (p := ⟨b, 1, none⟩) hB _

theorem cells5 : Tryz.prog.cellsOf 5 = 1 := by kernel_rfl

set_option maxHeartbeats 2000000 in
set_option maxRecDepth 100000 in
theorem bstring (B b : Nat) (l : List UInt8) (w : World) (h : Lib.IsBuilder 71 5 B b (bv l) w) (h0 : l ≠ []) :
  Calls Tryz.prog 27 #[.pointer (some ⟨b, 0, none⟩)] w fun e w' => e = .returned (.string ⟨l.toArray⟩) ∧ Below B w w' := by
 obtain ⟨p, hB, v, hbk, hown, hne⟩ : ∃ p, Lib.BuilderAt 71 5 B b p (bv l) w := by
  rcases h with h | h
  ·exact ⟨_, h⟩
  ·exact ⟨_, h⟩
 have hl0 : l.length ≠ 0 := by simpa using h0
 rw [bv_len] at hown
 obtain ⟨g, cap, cur, rfl, hbg, hg, hnc, hcm, hcs, htake⟩ : ∃ g cap cur, v = .slice (some ⟨g, 0, none⟩) l.length cap ∧ B ≤ g ∧ w.heap[g]? = some (.cells cur 5 (0, 0)) ∧ l.length ≤ cap ∧ cap ≤ maxLen ∧ cur.size = cap * 1 ∧ cur.toList.take (l.length * 1) = bv l := by
  rcases hown.2 with ⟨_, hz⟩ | ⟨g, cap, cur, hv, r⟩
  ·exact absurd hz hl0
  ·exact ⟨g, cap, cur, hv, r⟩
 have c1 : w.drew.cell? ⟨b, 1, none⟩ = some (.slice (some ⟨g, 0, none⟩) l.length cap) := by
  have : w.drew.heap[b]? = some (.cells #[p, .slice (some ⟨g, 0, none⟩) l.length cap] 71 (0, 0)) := hbk
  rw [Lib.cell_of_heap this]; rfl
 have hSD : (Builtin.unsafeSliceData_ #[55] 130 #[.slice (some ⟨g, 0, none⟩) l.length cap]).run Tryz.prog w.drew = .ok (.pointer (some ⟨g, 0, none⟩)) w.drew :=
  Lib.run_unsafeSliceData_row _ _ _ _ _ _ (by omega)
 have hUS : (Builtin.unsafeString_ #[130, 3] 9 #[.pointer (some ⟨g, 0, none⟩), .int .i64 l.length]).run Tryz.prog w.drew = .ok (.string ⟨l.toArray⟩) (w.drew.freeze ⟨g, 0, none⟩ l.length) := by
  refine Lib.run_unsafeString_row w.drew 130 3 9 5 Tryz.underlying130 cells5 g cur.size (by have hg' : w.drew.heap[g]? = some (.cells cur 5 (0, 0)) := hg; simp [World.shape?, hg']) l h0 (by omega) (by unfold maxLen at hcm; omega) ?_
  intro j x hx
  have := hown.cells (g := g) rfl j (.int .u8 x.toNat) (by simp [bv, hx])
  exact this
 clear hown hne htake hg hbk
 have mixed : Tryz.prog.follows Departure.mixedOrders = true := by kernel_rfl
 go_enter Tryz.func27, Tryz.ntmps27
 go_wp2
 go_region_o
 all_goals (go_wp2; go_ret; exact ⟨rfl, Lib.below_freeze (Below.drew (Below.refl B w)) (p := ⟨g, 0, none⟩) hbg _⟩)
end Go.Proofs.YtpnnncfbodfnhaaGreatDoor

namespace Go.Proofs.YtpnnncfbodfnhaaGreatDoor
open Go.RowKit

theorem pre_len {n m : Nat} {pre : List UInt8} (hn : n ≤ 1000000000) (h : pre ++ WM.varL m = WM.varL n) : pre.length ≤ 10 := by
 have h1 := WM.varL_len5 n (by omega)
 have h2 := congrArg List.length h
 simp at h2
 omega

set_option maxHeartbeats 400000 in
theorem var28 (n : Nat) (hn : n ≤ 1000000000) (w : World) :
  Calls Tryz.prog 55 #[.int .i64 n] w fun e w' => e = .returned (.string ⟨(WM.varL n).toArray⟩) ∧ Below w.heap.size w w' := by
 go_enter Tryz.func55, Tryz.ntmps55
 go_wp2
 go_loopw [0, 3] (fun t v wr => ∃ (m : Nat) (pre : List UInt8), m ≤ n ∧ t = .int .i64 m ∧ Own wr w.heap.size v pre ∧ Hid (pre ++ WM.varL m = WM.varL n) ∧ Below w.heap.size w wr) (fun t _ _ => (intOf t).toNat)
 case atStart =>
  exact ⟨n, [], Nat.le_refl _, rfl, Own.empty _ _ (Nat.le_refl _), rfl, (Below.refl _ _).alloc (Nat.le_refl _) _⟩
 case round =>
  obtain ⟨m, pre, hm, rfl, hown, HE, hb⟩ := hrel
  have hlen := pre_len hn HE.out
  by_cases hlt : 127 < m
  ·go_wp2_with (at_builtin; refine wpApp rfl _ _ rfl w [UInt8.ofNat (m % 128 + 128)] rfl hown rfl (ofNatCell _ _ (by omega) (by omega)) (by simp; omega) hb (Nat.le_refl _) ?_)
   intro v' w1 hown1 hb1 _
   clear hown hb
   go_wp2
   go_roundw
   case rel => exact ⟨m / 128, _, by omega, by go_num, hown1, by have := HE.out; rw [WM.varL_big m hlt] at this; simpa [Hid] using this, hb1⟩
   case measure => simp [intOf]; omega
  ·go_wp2_with (at_builtin; refine wpApp rfl _ _ rfl w [UInt8.ofNat m] rfl hown rfl (ofNatCell _ _ (by omega) (by omega)) (by simp; omega) hb (Nat.le_refl _) ?_)
   intro v' w1 hown1 hb1 _
   clear hown hb
   have hst := hown1.str
   go_wp2
   go_ret
   refine ⟨?_, hb1⟩
   have := HE.out
   rw [WM.varL_small m (by omega)] at this
   rw [this]
   rfl

set_option maxHeartbeats 400000 in
theorem ivar_yes (n : Nat) (hn : n ≤ 1000000000) (w : World) :
  Calls Tryz.prog 63 #[.int .i64 n] w fun e w' => e = .returned (.tuple #[.string ⟨(WM.varL n).toArray⟩, .bool true]) ∧ Below w.heap.size w w' := by
 have h0 : (0 : Int) ≤ (n : Int) := by omega
 have h1 : (n : Int) ≤ 1000000000 := by omega
 go_enter Tryz.func63, Tryz.ntmps63
 go_wp2
 go_loopw [0, 4] (fun t v wr => ∃ (m : Nat) (pre : List UInt8), m ≤ n ∧ t = .int .i64 m ∧ Own wr w.heap.size v pre ∧ Hid (pre ++ WM.varL m = WM.varL n) ∧ Below w.heap.size w wr) (fun t _ _ => (intOf t).toNat)
 case atStart =>
  exact ⟨n, [], Nat.le_refl _, rfl, Own.nil _ _, rfl, Below.refl _ _⟩
 case round =>
  obtain ⟨m, pre, hm, rfl, hown, HE, hb⟩ := hrel
  have hlen := pre_len hn HE.out
  by_cases hlt : 127 < m
  ·go_wp2_with (at_builtin; refine wpApp rfl _ _ rfl w [UInt8.ofNat (m % 128 + 128)] rfl hown rfl (ofNatCell _ _ (by omega) (by omega)) (by simp; omega) hb (Nat.le_refl _) ?_)
   intro v' w1 hown1 hb1 _
   clear hown hb
   go_wp2
   go_roundw
   case rel => exact ⟨m / 128, _, by omega, by go_num, hown1, by have := HE.out; rw [WM.varL_big m hlt] at this; simpa [Hid] using this, hb1⟩
   case measure => simp [intOf]; omega
  ·go_wp2_with (at_builtin; refine wpApp rfl _ _ rfl w [UInt8.ofNat m] rfl hown rfl (ofNatCell _ _ (by omega) (by omega)) (by simp; omega) hb (Nat.le_refl _) ?_)
   intro v' w1 hown1 hb1 _
   clear hown hb
   have hst := hown1.str
   go_wp2
   go_ret2
   refine ⟨?_, hb1⟩
   have := HE.out
   rw [WM.varL_small m (by omega)] at this
   rw [this]
   rfl

end Go.Proofs.YtpnnncfbodfnhaaGreatDoor

namespace Go.Proofs.YtpnnncfbodfnhaaGreatDoor
open Go.RowKit

theorem size_mk (l : List UInt8) : (⟨l.toArray⟩ : ByteArray).size = l.length := by simp [ByteArray.size]

set_option maxHeartbeats 400000 in
theorem ishort_yes (s : ByteArray) (h : s.size ≤ 20000) (w : World) :
  Calls Tryz.prog 210 #[.string s] w fun e w' => e = .returned (.tuple #[.string (⟨(WM.varL s.size).toArray⟩ ++ s), .bool true]) ∧ Below w.heap.size w w' := by
 have h5 := WM.varL_len5 s.size (by omega)
 have hz : (⟨(WM.varL s.size).toArray⟩ : ByteArray).size ≤ 5 := by rw [size_mk]; exact h5
 clear h5
 go_enter Tryz.func210, Tryz.ntmps210
 go_wp2_with (first | (go_at_call 63; refine (ivar_yes s.size (by omega) _).mono ?_; rintro e w' ⟨rfl, hb⟩) | go_in)
 go_ret2
 exact ⟨rfl, hb⟩

end Go.Proofs.YtpnnncfbodfnhaaGreatDoor
