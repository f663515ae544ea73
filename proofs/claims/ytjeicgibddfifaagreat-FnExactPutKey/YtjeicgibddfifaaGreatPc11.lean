/- What the drawing functions of the specification do to their cursor. -/
import Derived.Test.YtjeicgibddfifaaGreatProg
import Derived.WalkKit
import Derived.Test.YtjeicgibddfifaaGreatPc01
import Derived.WalkSpells
import Derived.WalkLawsBesides
import Derived.Deep.QuietTactic
import Derived.BigQuiet
import Derived.Deep.RegionHeld3
import Derived.Deep.DrawnRows
import Derived.Deep.AppendLies
import Derived.Test.YtjeicgibddfifaaGreatPc02
import Derived.Test.YtjeicgibddfifaaGreatPc03
import Derived.Test.YtjeicgibddfifaaGreatPc05
import Derived.Sort.OwnSorted
import Derived.Lib.RowBridge
import Derived.Test.YtjeicgibddfifaaGreatPc06
import Derived.Lib.ItoaNum
import Derived.Lib.ItoaLen
import Derived.Test.YtjeicgibddfifaaGreatPc08
namespace Go.Proofs.YtjeicgibddfifaaGreat
open Go.RowKit
open KM
attribute [local go_sem ↓] Go.wp_at_zero Go.wp_at_succ

def CodeOk (w : World) (a : Option Addr) (len g : Nat) : Prop :=
 0 < len → ∃ b off, a = some ⟨b, off, none⟩ ∧ b < w.heap.size ∧ b ≠ g ∧ ∀ i, i < len → ∃ z : Int, 0 ≤ z ∧ z ≤ 255 ∧ w.cell? ⟨b, off + i, none⟩ = some (.int .u8 z)

structure Cur (w : World) (g : Nat) (a : Option Addr) (len cap : Nat) (i h : Int) : Prop where
 c0 : w.cell? ⟨g, 0, none⟩ = some (.slice a len cap)
 c1 : w.cell? ⟨g, 1, none⟩ = some (.int .i64 i)
 c2 : w.cell? ⟨g, 2, none⟩ = some (.int .i64 h)
 free : ∀ j, w.frozen? ⟨g, j, none⟩ = false
 i0 : 0 ≤ i
 i1 : i ≤ (len : Int)

theorem CodeOk.grown {w w' : World} {a : Option Addr} {len g : Nat} (h : CodeOk w a len g) (hg : w.grownBy w' (some g)) : CodeOk w' a len g := fun hl => by
 obtain ⟨b, off, ha, hb, hne, hz⟩ := h hl
 refine ⟨b, off, ha, Nat.lt_of_lt_of_le hb hg.size, hne, fun i hi => ?_⟩
 obtain ⟨z, h0, h1, hc⟩ := hz i hi
 exact ⟨z, h0, h1, (World.cell?_of_block (w := w) (a := ⟨b, off + i, none⟩) (hg.block b hb (fun e => hne (Option.some.inj e)))).trans hc⟩

theorem Cur.drewN {w : World} {g len cap : Nat} {a : Option Addr} {i h : Int} (c : Cur w g a len cap i h) (n : Nat) : Cur (w.drewN n) g a len cap i h := ⟨c.c0, c.c1, c.c2, c.free, c.i0, c.i1⟩

def CurOk (w : World) (g : Nat) (a : Option Addr) (len cap : Nat) : Prop := ∃ i h, Cur w g a len cap i h ∧ CodeOk w a len g

theorem CurOk.below {w w' : World} {g len cap : Nat} {a : Option Addr} (h : CurOk w g a len cap) (hb : Below w.heap.size w w') (hg : g < w.heap.size) : CurOk w' g a len cap := by
 obtain ⟨i, x, c, k⟩ := h
 refine ⟨i, x, ⟨(hb.cell (p := ⟨g, 0, none⟩) hg).trans c.c0, (hb.cell (p := ⟨g, 1, none⟩) hg).trans c.c1, (hb.cell (p := ⟨g, 2, none⟩) hg).trans c.c2, fun j => (hb.frozen (p := ⟨g, j, none⟩) hg).trans (c.free j), c.i0, c.i1⟩, fun hl => ?_⟩
 obtain ⟨b, off, ha, hb1, hne, hz⟩ := k hl
 refine ⟨b, off, ha, Nat.lt_of_lt_of_le hb1 hb.size, hne, fun j hj => ?_⟩
 obtain ⟨z, h0, h1, hc⟩ := hz j hj
 exact ⟨z, h0, h1, (hb.cell (p := ⟨b, off + j, none⟩) hb1).trans hc⟩

def CodeRow (w : World) (a : Option Addr) (len : Nat) : Prop :=
 0 < len → ∃ b off, a = some ⟨b, off, none⟩ ∧ b < w.heap.size ∧ ∀ i, i < len → ∃ z : Int, 0 ≤ z ∧ z ≤ 255 ∧ w.cell? ⟨b, off + i, none⟩ = some (.int .u8 z)

theorem CodeRow.below {w w' : World} {a : Option Addr} {len : Nat} (h : CodeRow w a len) (hb : Below w.heap.size w w') : CodeRow w' a len := fun hl => by
 obtain ⟨b, off, ha, hb1, hz⟩ := h hl
 refine ⟨b, off, ha, Nat.lt_of_lt_of_le hb1 hb.size, fun j hj => ?_⟩
 obtain ⟨z, h0, h1, hc⟩ := hz j hj
 exact ⟨z, h0, h1, (hb.cell (p := ⟨b, off + j, none⟩) hb1).trans hc⟩

structure CurI (w : World) (g : Nat) (a : Option Addr) (len cap : Nat) : Prop where
 c : CurOk w g a len cap
 lt : g < w.heap.size
 sm : len ≤ 1048576
theorem CurI.below {w w' : World} {g len cap : Nat} {a : Option Addr} (h : CurI w g a len cap) (hb : Below w.heap.size w w') : CurI w' g a len cap :=
 ⟨h.c.below hb h.lt, Nat.lt_of_lt_of_le h.lt hb.size, h.sm⟩
theorem CurI.drew {w : World} {g len cap : Nat} {a : Option Addr} (h : CurI w g a len cap) : CurI w.drew g a len cap := h.below ((belowRefl w).drew)
theorem CurI.alloc {w : World} {g len cap : Nat} {a : Option Addr} (h : CurI w g a len cap) (o : Obj) : CurI (w.alloc o) g a len cap := h.below ((belowRefl w).alloc (Nat.le_refl _) o)

def OldC (w0 : World) (g : Nat) (a : Option Addr) (len : Nat) : Prop := g < w0.heap.size ∧ ∀ b off, a = some ⟨b, off, none⟩ → 0 < len → b < w0.heap.size
theorem CurI.old {w : World} {g len cap : Nat} {a : Option Addr} (h : CurI w g a len cap) : OldC w g a len :=
 ⟨h.lt, fun b off e hl => by
  obtain ⟨i, x, c, k⟩ := h.c
  obtain ⟨b', off', ha, hb, _⟩ := k hl
  rw [e] at ha
  cases ha
  exact hb⟩
theorem OldC.le {w w' : World} {g len : Nat} {a : Option Addr} (h : OldC w g a len) (hs : w.heap.size ≤ w'.heap.size) : OldC w' g a len :=
 ⟨Nat.lt_of_lt_of_le h.1 hs, fun b off e hl => Nat.lt_of_lt_of_le (h.2 b off e hl) hs⟩

theorem CurOk.belowB {w w' : World} {g len cap B : Nat} {a : Option Addr} (h : CurOk w g a len cap) (hb : Below B w w') (hg : g < B) (hcode : ∀ b off, a = some ⟨b, off, none⟩ → 0 < len → b < B) : CurOk w' g a len cap := by
 obtain ⟨i, x, c, k⟩ := h
 refine ⟨i, x, ⟨(hb.cell (p := ⟨g, 0, none⟩) hg).trans c.c0, (hb.cell (p := ⟨g, 1, none⟩) hg).trans c.c1, (hb.cell (p := ⟨g, 2, none⟩) hg).trans c.c2, fun j => (hb.frozen (p := ⟨g, j, none⟩) hg).trans (c.free j), c.i0, c.i1⟩, fun hl => ?_⟩
 obtain ⟨b, off, ha, hb1, hne, hz⟩ := k hl
 refine ⟨b, off, ha, Nat.lt_of_lt_of_le hb1 hb.size, hne, fun j hj => ?_⟩
 obtain ⟨z, h0, h1, hc⟩ := hz j hj
 exact ⟨z, h0, h1, (hb.cell (p := ⟨b, off + j, none⟩) (hcode b off ha hl)).trans hc⟩
theorem grown_belowB {w w2 w3 : World} {g B : Nat} (h : w.grownBy w2 (some g)) (hb : Below B w2 w3) (hB : w.heap.size ≤ B) : w.grownBy w3 (some g) :=
 ⟨hb.os.trans h.os, hb.tape.trans h.tape, hb.output.trans h.output, Nat.le_trans h.size hb.size, fun j hj hne => (hb.block j (by omega)).trans (h.block j hj hne)⟩

structure Dn (w0 w : World) (g : Nat) (a : Option Addr) (len cap : Nat) : Prop where
 c : CurI w g a len cap
 gr : w0.grownBy w (some g)
 old : OldC w0 g a len
section
variable {w0 w w' : World} {g len cap : Nat} {a : Option Addr}
theorem Dn.belowB (h : Dn w0 w g a len cap) (hb : Below w0.heap.size w w') : Dn w0 w' g a len cap :=
 ⟨⟨h.c.c.belowB hb h.old.1 h.old.2, Nat.lt_of_lt_of_le h.c.lt hb.size, h.c.sm⟩, grown_belowB h.gr hb (Nat.le_refl _), h.old⟩
theorem Dn.below (h : Dn w0 w g a len cap) (hb : Below w.heap.size w w') : Dn w0 w' g a len cap := h.belowB (hb.mono h.gr.size)
theorem Dn.set (h : Dn w0 w g a len cap) {p : Addr} (hp : w0.heap.size ≤ p.block) (u : Value) : Dn w0 (w.setCell p u) g a len cap := h.belowB ((Below.refl _ _).setCell hp u)
theorem Dn.alloc (h : Dn w0 w g a len cap) (o : Obj) : Dn w0 (w.alloc o) g a len cap := h.below ((belowRefl w).alloc (Nat.le_refl _) o)
theorem Dn.drew (h : Dn w0 w g a len cap) : Dn w0 w.drew g a len cap := h.below ((belowRefl w).drew)
theorem Dn.size (h : Dn w0 w g a len cap) : w0.heap.size ≤ w.heap.size := h.gr.size
theorem Dn.out {B : Nat} (h : Dn w0 w g a len cap) (hB : Below B w' w0) (hg : B ≤ g) (hs : B ≤ w0.heap.size) : Below B w' w :=
 hB.grown h.gr hs (fun j hj => by cases hj; exact hg)
end

section
variable {w w' : World} {b : Nat} {cs : List Value}
end

end Go.Proofs.YtjeicgibddfifaaGreat

namespace Go.Proofs.YtjeicgibddfifaaGreat
open Go.RowKit
open KM
attribute [local go_sem ↓] Go.wp_at_zero Go.wp_at_succ

def KeyD (s : ByteArray) : Prop := keyB s = true ∧ s.size ≤ 3
def RgD (r : Rg) : Prop := KeyD r.1 ∧ KeyD r.2 ∧ le r.1 r.2 = true
theorem le_of_lt {x y : ByteArray} (h : Op.bytesLess x.toList y.toList = true) : le x y = true := by unfold le; rw [h]; rfl

end Go.Proofs.YtjeicgibddfifaaGreat

namespace Go.Proofs.YtjeicgibddfifaaGreat
open Go.RowKit
open KM
attribute [local go_sem ↓] Go.wp_at_zero Go.wp_at_succ

def putS (xs : List Wt) (x : Wt) : List Wt := xs.filter (fun y => lt y.1 x.1) ++ [x] ++ xs.filter (fun y => lt x.1 y.1)

theorem wone {s t : ByteArray} {b : Bool} : ∀ u ∈ ([.string s, .string t, .bool b] : List Value), u.oneCell' = true := by
 intro u hu
 simp only [List.mem_cons, List.not_mem_nil, or_false] at hu
 rcases hu with rfl | rfl | rfl <;> rfl
theorem wpAppW {ops : Array Oper} {rest : List Oper} {o : Oper} {a : Act} {Q : Exit → Act → World → Prop} (hgd : o.guard = none) (s x : Operand) (ho : o.op = .call { callee := .builtin .append, args := #[s, x], argTypes := #[54, 54] })
  {W : World} {base : Nat} {v : Value} {xs : List Wt} (y : Wt) (hs : a.eval s = v) (hown : GOwn encW 47 W base v xs)
  (hx : a.eval x = .slice (some ⟨W.heap.size, 0, none⟩) 1 1) (hlen : xs.length ≤ 100000000) (hB : base ≤ W.heap.size)
  (h : ∀ v' w', GOwn encW 47 w' base v' (xs ++ [y]) → Below base W w' → wpList Tryz.prog ops Q rest (a.put o.dst v') w') :
  wpList Tryz.prog ops Q (o :: rest) a (W.alloc (.cells #[.string y.1, .string y.2.1, .bool y.2.2] 47)) := by
 refine wpAppG 54 47 3 40 _ Tryz.underlying54 Tryz.info47 rfl (by omega) (by omega) hgd s x ho (encW.enc y) hs (World.ownsRow.alloc hown _) hx (heap_alloc_new W _) rfl wone (by omega) (by simp; omega) ?_
 intro g' cap w' h1 h2
 refine h _ w' ?_ (((Below.refl _ _).alloc hB _).trans h2)
 have e : encW.cells (xs ++ [y]) = encW.cells xs ++ encW.enc y := by rw [encW.cells_app]; simp [Enc.cells]
 unfold GOwn
 rw [e, List.length_append]
 exact h1
end Go.Proofs.YtjeicgibddfifaaGreat

namespace Go.Proofs.YtjeicgibddfifaaGreat
open Go.RowKit
open KM
attribute [local go_sem ↓] Go.wp_at_zero Go.wp_at_succ

theorem less_trans : ∀ a b c : List UInt8, Op.bytesLess a b = true → Op.bytesLess b c = true → Op.bytesLess a c = true
 | [], [], _, h, _ => by simp [Op.bytesLess] at h
 | [], _ :: _, [], _, h => by simp [Op.bytesLess] at h
 | [], _ :: _, _ :: _, _, _ => by simp [Op.bytesLess]
 | _ :: _, [], _, h, _ => by simp [Op.bytesLess] at h
 | _ :: _, _ :: _, [], _, h => by simp [Op.bytesLess] at h
 | x :: a, y :: b, z :: c, h, h2 => by
  simp only [Op.bytesLess, Bool.or_eq_true, decide_eq_true_eq, Bool.and_eq_true, beq_iff_eq] at h h2 ⊢
  rcases h with h | ⟨rfl, h⟩
  ·have h' := UInt8.lt_iff_toNat_lt.1 h
   rcases h2 with h2 | ⟨rfl, _⟩
   ·have h2' := UInt8.lt_iff_toNat_lt.1 h2
    exact Or.inl (UInt8.lt_iff_toNat_lt.2 (by omega))
   ·exact Or.inl h
  ·rcases h2 with h2 | ⟨rfl, h2⟩
   ·exact Or.inl h2
   ·exact Or.inr ⟨rfl, less_trans a b c h h2⟩
theorem lt_trans' {a b c : ByteArray} (h : lt a b = true) (h2 : lt b c = true) : lt a c = true := less_trans _ _ _ h h2
theorem lt_asymm' {a b : ByteArray} (h : lt a b = true) : lt b a = false := less_asymm _ _ h
theorem lt_irrefl' (a : ByteArray) : lt a a = false := less_irrefl _

def WtD (x : Wt) : Prop := writeB x = true ∧ x.1.size ≤ 3 ∧ x.2.1.size ≤ 3
def Asc (xs : List Wt) : Prop := xs.Pairwise fun a b => lt a.1 b.1 = true
def WsD (xs : List Wt) : Prop := (∀ x ∈ xs, WtD x) ∧ Asc xs

theorem WsD.fit {xs : List Wt} (h : WsD xs) : WFit xs := fun x hx => ⟨by have := (h.1 x hx).2.1; omega, by have := (h.1 x hx).2.2; omega⟩

end Go.Proofs.YtjeicgibddfifaaGreat

namespace Go.Proofs.YtjeicgibddfifaaGreat
open Go.RowKit
open KM
attribute [local go_sem ↓] Go.wp_at_zero Go.wp_at_succ

def RsD (xs : List Rg) : Prop := ∀ x ∈ xs, RgD x
theorem RsD.fit {xs : List Rg} (h : RsD xs) : RFit xs := fun x hx => ⟨by have := (h x hx).1.2; omega, by have := (h x hx).2.1.2; omega⟩

end Go.Proofs.YtjeicgibddfifaaGreat

namespace Go.Proofs.YtjeicgibddfifaaGreat
open Go.RowKit
open KM
attribute [local go_sem ↓] Go.wp_at_zero Go.wp_at_succ

def bv (l : List UInt8) : List Value := l.map fun b => Value.int .u8 (b.toNat : Int)
def Own (w : World) (base : Nat) (v : Value) (l : List UInt8) : Prop := w.ownsRow base 5 1 v l.length (bv l)
theorem Own.str {w : World} {base : Nat} {v : Value} {l : List UInt8} (h : Own w base v l) :
  (convert 152 9 v).run Tryz.prog w = .ok (.string ⟨l.toArray⟩) w := by
 have h0 := h
 rcases h.2 with ⟨rfl, h1⟩ | ⟨g, cap, cur, rfl, hg, hh, hnc, hcp, hcs, htake⟩
 ·obtain rfl : l = [] := List.length_eq_zero_iff.1 h1
  rw [run_convert_bytes_string w 152 9 5 none 0 0 Tryz.underlying152 Tryz.underlying5 Tryz.underlying9]
  rfl
 ·refine run_convert_bytes_back (P := Tryz.prog) w 152 9 5 ⟨g, 0, none⟩ cap l Tryz.underlying152 Tryz.underlying5 Tryz.underlying9 ?_
  intro j hj
  rw [Addr.add_lit, Nat.zero_add, World.ownsRow.cellAt h0 j (by omega)]
  simp [bv, hj]
end Go.Proofs.YtjeicgibddfifaaGreat

namespace Go.Proofs.YtjeicgibddfifaaGreat
open Go.RowKit
open KM
attribute [local go_sem ↓] Go.wp_at_zero Go.wp_at_succ

theorem conv1 (wr : World) (b : UInt8) (x : Int) (hx : x = (b.toNat : Int)) : (convert 152 9 (.slice (some ⟨wr.heap.size, 0, none⟩) 1 1)).run Tryz.prog (wr.alloc (.cells #[.int .u8 x] 5)) = .ok (.string ⟨#[b]⟩) (wr.alloc (.cells #[.int .u8 x] 5)) := by
 subst hx
 have h : Own (wr.alloc (.cells #[.int .u8 (b.toNat : Int)] 5)) wr.heap.size (.slice (some ⟨wr.heap.size, 0, none⟩) 1 1) [b] :=
  World.ownsRow_lit (size := 1) wr #[.int .u8 (b.toNat : Int)] 1 (Nat.le_refl _) (by unfold maxLen; omega) rfl
 exact h.str
set_option maxRecDepth 100000 in
set_option maxHeartbeats 1000000 in
theorem mark87 (N : Nat) (h0 : 0 < N) (h1 : N ≤ 1000000000000000000) (w : World) : Calls Tryz.prog 77 #[.int .i64 N] w fun e w' => e = .returned (.string (mkB N)) ∧ Below w.heap.size w w' := by
 have hd : decide ((N : Int) ≤ 0) = false := by simp; omega
 go_enter Tryz.func77, Tryz.ntmps77
 go_wp2
 go_loopw [0, 3] (fun t v wr => ∃ (m : Nat) (s : ByteArray), m ≤ N ∧ t = .int .i64 m ∧ v = .string s ∧ Hid (dd m ++ s.data.toList = dd N) ∧ Below w.heap.size w wr) (fun t _ _ => (intOf t).toNat)
 case atStart => exact ⟨N, ⟨#[]⟩, Nat.le_refl _, rfl, rfl, by show _ = _; simp, Below.refl _ _⟩
 case round =>
  obtain ⟨m, s, hm, rfl, rfl, HE, hb⟩ := hrel
  have hsz := round_size (by omega) HE.out
  by_cases hpos : 0 < m
  ·have hpos' : (0 : Int) < (m : Int) := by omega
   have HE2 : Hid _ := dd_round hpos HE.out
   have hcv := conv1 wr (UInt8.ofNat (48 + m % 10)) (48 + (m : Int) % 10) (by rw [toNat_ofNat _ (by omega)]; omega)
   have hsz2 : (⟨#[UInt8.ofNat (48 + m % 10)]⟩ : ByteArray).size ≤ 1 := Nat.le_refl _
   go_wp2
   go_roundw
   case rel => exact ⟨m / 10, _, by omega, by go_num, rfl, by first | exact HE2 | (have := HE2.out; simpa [Hid] using this), hb.alloc hb.size _⟩
   case measure => simp [intOf]; omega
  ·have hne : ¬ (0 : Int) < (m : Int) := by omega
   have HS : Hid (s.data.toList = dd N) := by
    have h := HE.out
    rw [show m = 0 by omega] at h
    exact h
   go_wp2
   go_ret
   refine ⟨ret_str ?_, hb⟩
   rw [app_data, HS.out, mkB, app_data]
end Go.Proofs.YtjeicgibddfifaaGreat

namespace Go.Proofs.YtjeicgibddfifaaGreat
open Go.RowKit
open KM
attribute [local go_sem ↓] Go.wp_at_zero Go.wp_at_succ
set_option maxRecDepth 100000 in
set_option maxHeartbeats 4000000 in
theorem markV (n k0 : Nat) (a : Option Addr) (c base : Nat) (xs0 : List Value) (hn : n ≤ 100000000) (hk0 : 0 < k0) (hk1 : k0 ≤ 100000000000000000) (w : World) (h : w.ownsRow base 85 4 (.slice a n c) n xs0) :
  Calls Tryz.prog 74 #[.slice a n c, .int .i64 k0] w fun e w' => e = .returned (.int .i64 ((k0 + 4 * n : Nat) : Int)) ∧ GOwn encV 85 w' base (.slice a n c) (mkV k0 n) ∧ w.grownBy w' (Value.slice a n c).ownBlock := by
 have H : Hid (w.ownsRow base 85 4 (.slice a n c) n xs0) := h
 clear h
 go_enter Tryz.func74, Tryz.ntmps74
 go_wp2
 go_loopw [1, 5] (fun tk t wr => ∃ (k : Nat) (xs : List Value), k ≤ n ∧ t = .int .i64 k ∧ tk = .int .i64 ((k0 + 4 * k : Nat) : Int) ∧ Hid (wr.ownsRow base 85 4 (.slice a n c) n xs) ∧ Hid (∀ j, j < k * 4 → xs[j]? = (encV.cells (mkV k0 n))[j]?) ∧ Hid (w.grownBy wr (Value.slice a n c).ownBlock)) (fun _ t _ => n - (intOf t).toNat)
 case atStart => exact ⟨0, xs0, Nat.zero_le _, rfl, rfl, H, (fun j hj => by omega), grown_refl _ _⟩
 case round =>
  obtain ⟨k, xs, hk, rfl, rfl, HX, HA, HG⟩ := hrel
  by_cases hlt : k < n
  ·have hlt' : (k : Int) < (n : Int) := by omega
   have h0 : (0 : Int) ≤ (k : Int) := by omega
   obtain ⟨g, rfl, hbg, hgl⟩ := own_form HX.out (by omega)
   have hlen := HX.out.1
   obtain ⟨q, hq⟩ : ∃ q, q = k0 + 4 * k := ⟨_, rfl⟩
   have HQ : Hid (q = k0 + 4 * k) := hq
   rw [← hq]
   have hq0 : 0 < q := by omega
   have hq1 : q ≤ 900000000000000000 := by omega
   clear hq
   have W0 := hide HX.out
   have G0 : Hid (wr.grownBy wr (some g)) := grown_refl _ _
   go_wp2_with fail
   refine (mark87 q (by omega) (by omega) _).mono ?_
   rintro e w1 ⟨rfl, hbm⟩
   have V0 := hide (ownsBelow W0.out hbm)
   have F0 : Hid (wr.grownBy w1 (some g)) := grown_trans G0.out (grown_below _ hbm)
   have hgl0 : g < w1.heap.size := Nat.lt_of_lt_of_le hgl F0.out.size
   clear hbm
   have len0 : k * 4 < (xs).length := by omega
   have q0 : (w1).cell? ⟨g, k * 4, none⟩ = some ((xs)[k * 4]'len0) := by rw [World.ownsRow.cellAt V0.out (k * 4) (by omega)]; simp
   have f0 : (w1).frozen? ⟨g, k * 4, none⟩ = false := World.ownsRow.frozenAt V0.out (k * 4)
   have st0 := World.ownsRow.stored V0.out (k * 4) (.string (mkB q))
   have W1 := hide st0.1
   have G1 : Hid (wr.grownBy ((w1).setCell ⟨g, k * 4, none⟩ (.string (mkB q))) (some g)) := grown_trans F0.out st0.2
   clear st0
   have E1 : Hid ((q : Int) + 1 = ((q + 1 : Nat) : Int)) := by show _ = _; omega
   go_wp2_with fail
   rw [E1.out]
   refine (mark87 (q + 1) (by omega) (by omega) _).mono ?_
   rintro e w2 ⟨rfl, hbm⟩
   have V1 := hide (ownsBelow W1.out hbm)
   have F1 : Hid (wr.grownBy w2 (some g)) := grown_trans G1.out (grown_below _ hbm)
   have hgl1 : g < w2.heap.size := Nat.lt_of_lt_of_le hgl F1.out.size
   clear hbm
   have len1 : k * 4 + 1 < ((xs).set (k * 4) (.string (mkB q))).length := by simp only [List.length_set]; omega
   have q1 : (w2).cell? ⟨g, k * 4 + 1, none⟩ = some (((xs).set (k * 4) (.string (mkB q)))[k * 4 + 1]'len1) := by rw [World.ownsRow.cellAt V1.out (k * 4 + 1) (by omega)]; simp
   have f1 : (w2).frozen? ⟨g, k * 4 + 1, none⟩ = false := World.ownsRow.frozenAt V1.out (k * 4 + 1)
   have st1 := World.ownsRow.stored V1.out (k * 4 + 1) (.string (mkB (q + 1)))
   have W2 := hide st1.1
   have G2 : Hid (wr.grownBy ((w2).setCell ⟨g, k * 4 + 1, none⟩ (.string (mkB (q + 1)))) (some g)) := grown_trans F1.out st1.2
   clear st1
   have len2 : k * 4 + 2 < (((xs).set (k * 4) (.string (mkB q))).set (k * 4 + 1) (.string (mkB (q + 1)))).length := by simp only [List.length_set]; omega
   have q2 : ((w2).setCell ⟨g, k * 4 + 1, none⟩ (.string (mkB (q + 1)))).cell? ⟨g, k * 4 + 2, none⟩ = some ((((xs).set (k * 4) (.string (mkB q))).set (k * 4 + 1) (.string (mkB (q + 1))))[k * 4 + 2]'len2) := by rw [World.ownsRow.cellAt W2.out (k * 4 + 2) (by omega)]; simp
   have f2 : ((w2).setCell ⟨g, k * 4 + 1, none⟩ (.string (mkB (q + 1)))).frozen? ⟨g, k * 4 + 2, none⟩ = false := World.ownsRow.frozenAt W2.out (k * 4 + 2)
   have st2 := World.ownsRow.stored W2.out (k * 4 + 2) (.bool (goneQ q))
   have W3 := hide st2.1
   have G3 : Hid (wr.grownBy (((w2).setCell ⟨g, k * 4 + 1, none⟩ (.string (mkB (q + 1)))).setCell ⟨g, k * 4 + 2, none⟩ (.bool (goneQ q))) (some g)) := grown_trans G2.out st2.2
   clear st2
   have len3 : k * 4 + 3 < ((((xs).set (k * 4) (.string (mkB q))).set (k * 4 + 1) (.string (mkB (q + 1)))).set (k * 4 + 2) (.bool (goneQ q))).length := by simp only [List.length_set]; omega
   have q3 : (((w2).setCell ⟨g, k * 4 + 1, none⟩ (.string (mkB (q + 1)))).setCell ⟨g, k * 4 + 2, none⟩ (.bool (goneQ q))).cell? ⟨g, k * 4 + 3, none⟩ = some (((((xs).set (k * 4) (.string (mkB q))).set (k * 4 + 1) (.string (mkB (q + 1)))).set (k * 4 + 2) (.bool (goneQ q)))[k * 4 + 3]'len3) := by rw [World.ownsRow.cellAt W3.out (k * 4 + 3) (by omega)]; simp
   have f3 : (((w2).setCell ⟨g, k * 4 + 1, none⟩ (.string (mkB (q + 1)))).setCell ⟨g, k * 4 + 2, none⟩ (.bool (goneQ q))).frozen? ⟨g, k * 4 + 3, none⟩ = false := World.ownsRow.frozenAt W3.out (k * 4 + 3)
   have st3 := World.ownsRow.stored W3.out (k * 4 + 3) (.int .i64 ((q : Int) + 1 + 1 + 1))
   have W4 := hide st3.1
   have G4 : Hid (wr.grownBy ((((w2).setCell ⟨g, k * 4 + 1, none⟩ (.string (mkB (q + 1)))).setCell ⟨g, k * 4 + 2, none⟩ (.bool (goneQ q))).setCell ⟨g, k * 4 + 3, none⟩ (.int .i64 ((q : Int) + 1 + 1 + 1))) (some g)) := grown_trans G3.out st3.2
   clear st3
   have HA2 : Hid (∀ j, j < (k + 1) * 4 → (((((xs).set (k * 4) (.string (mkB q))).set (k * 4 + 1) (.string (mkB (q + 1)))).set (k * 4 + 2) (.bool (goneQ q))).set (k * 4 + 3) (.int .i64 ((q : Int) + 1 + 1 + 1)))[j]? = (encV.cells (mkV k0 n))[j]?) := fun j hj => by
    have ea := mkV_at k0 n k hlt
    rw [← HQ.out] at ea
    by_cases e0 : j = k * 4
    ·subst e0
     rw [List.getElem?_set_ne (by omega), List.getElem?_set_ne (by omega), List.getElem?_set_ne (by omega), List.getElem?_set_self len0]
     have := encV.cells_at (mkV k0 n) k (by rw [mkV_len]; exact hlt) 0 (by decide)
     rw [ea] at this
     simp only [encV, Nat.add_zero] at this ⊢
     rw [this]; rfl
    by_cases e1 : j = k * 4 + 1
    ·subst e1
     rw [List.getElem?_set_ne (by omega), List.getElem?_set_ne (by omega), List.getElem?_set_self len1]
     have := encV.cells_at (mkV k0 n) k (by rw [mkV_len]; exact hlt) 1 (by decide)
     rw [ea] at this
     simp only [encV] at this ⊢
     rw [this]; rfl
    by_cases e2 : j = k * 4 + 2
    ·subst e2
     rw [List.getElem?_set_ne (by omega), List.getElem?_set_self len2]
     have := encV.cells_at (mkV k0 n) k (by rw [mkV_len]; exact hlt) 2 (by decide)
     rw [ea] at this
     simp only [encV] at this ⊢
     rw [this]; rfl
    by_cases e3 : j = k * 4 + 3
    ·subst e3
     rw [List.getElem?_set_self len3]
     have := encV.cells_at (mkV k0 n) k (by rw [mkV_len]; exact hlt) 3 (by decide)
     rw [ea] at this
     simp only [encV] at this ⊢
     rw [this]; rfl
    rw [List.getElem?_set_ne (by omega), List.getElem?_set_ne (by omega), List.getElem?_set_ne (by omega), List.getElem?_set_ne (by omega)]
    exact HA.out j (by omega)
   have HN2 : Hid (((q + 4 : Nat) : Int) = ((k0 + 4 * (k + 1) : Nat) : Int)) := by show _ = _; have := HQ.out; omega
   have eg := goneQ_eq q
   have en : (q : Int) + 1 + 1 + 1 + 1 = ((q + 4 : Nat) : Int) := by omega
   go_wp2
   go_roundw
   case rel => exact ⟨k + 1, _, by omega, by go_num, by rw [← HN2.out]; go_num, W4, HA2, grown_trans HG.out G4.out⟩
   case measure => simp [intOf]; omega
  ·have hd : ¬ (k : Int) < (n : Int) := by omega
   have e : k = n := by omega
   have HE : Hid (GOwn encV 85 wr base (.slice a n c) (mkV k0 n)) := gown_ext (mkV_len _ _) HX.out (fun j hj => HA.out j (by have : encV.size = 4 := rfl; rw [this] at hj; omega))
   subst e
   go_wp2
   go_ret
   exact ⟨ret_int rfl, HE.out, HG.out⟩

end Go.Proofs.YtjeicgibddfifaaGreat
