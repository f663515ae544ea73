/- Keys, ranges and writes: no Go. -/
import Derived.Test.YtjeicgibddfifaaProg
import Derived.WalkKit
import Derived.WalkSpells
import Derived.WalkLawsBesides
import Derived.Deep.QuietTactic
import Derived.BigQuiet
import Derived.Deep.RegionHeld3
import Derived.Deep.DrawnRows
import Derived.Deep.AppendLies
import Derived.Sort.OwnSorted
import Derived.Lib.RowBridge
namespace Go.Proofs.Ytjeicgibddfifaa
namespace KM

def lt (a b : ByteArray) : Bool := Op.bytesLess a.toList b.toList

abbrev Rg := ByteArray × ByteArray
abbrev Wt := ByteArray × ByteArray × Bool
end KM
end Go.Proofs.Ytjeicgibddfifaa

namespace Go.Proofs.Ytjeicgibddfifaa
open Go.RowKit
open KM
attribute [local go_sem ↓] Go.wp_at_zero Go.wp_at_succ

theorem belowRefl (w : World) : Below w.heap.size w w := Below.refl _ _
end Go.Proofs.Ytjeicgibddfifaa

namespace Go.Proofs.Ytjeicgibddfifaa
open Go.RowKit
open KM
attribute [local go_sem ↓] Go.wp_at_zero Go.wp_at_succ

theorem bne_self' (b : Bool) : (b != b) = false := by cases b <;> rfl

structure Box (w : World) (b : Nat) (cs : List Value) : Prop where
 lt : b < w.heap.size
 at' : ∀ j, j < cs.length → w.cell? ⟨b, j, none⟩ = cs[j]?
theorem Box.below {w w' : World} {b : Nat} {cs : List Value} (h : Box w b cs) (hb : Below w.heap.size w w') : Box w' b cs :=
 ⟨Nat.lt_of_lt_of_le h.lt hb.size, fun j hj => (hb.cell (p := ⟨b, j, none⟩) h.lt).trans (h.at' j hj)⟩
theorem Box.new (w : World) (cs : List Value) (T : Nat) : Box (w.alloc (.cells cs.toArray T)) w.heap.size cs :=
 ⟨by simp, fun j hj => (World.cell?_alloc_mark w _ T (0, 0) j).trans (by simp)⟩
theorem Box.c0 {w : World} {b : Nat} {x : Value} {r : List Value} (h : Box w b (x :: r)) : w.cell? ⟨b, 0, none⟩ = some x := h.at' 0 (by simp)
theorem Box.c1 {w : World} {b : Nat} {x y : Value} {r : List Value} (h : Box w b (x :: y :: r)) : w.cell? ⟨b, 1, none⟩ = some y := h.at' 1 (by simp)
theorem Box.c2 {w : World} {b : Nat} {x y z : Value} {r : List Value} (h : Box w b (x :: y :: z :: r)) : w.cell? ⟨b, 2, none⟩ = some z := h.at' 2 (by simp)

theorem Box.c3 {w : World} {b : Nat} {x y z u : Value} {r : List Value} (h : Box w b (x :: y :: z :: u :: r)) : w.cell? ⟨b, 3, none⟩ = some u := h.at' 3 (by simp)

end Go.Proofs.Ytjeicgibddfifaa

namespace Go.Proofs.Ytjeicgibddfifaa
open Go.RowKit

structure Enc (α : Type) where
 enc : α → List Value
 size : Nat
 pos : 0 < size
 len : ∀ x, (enc x).length = size
namespace Enc
variable {α : Type} (E : Enc α)
def cells (xs : List α) : List Value := xs.flatMap E.enc
theorem cells_at : ∀ (xs : List α) (j : Nat) (h : j < xs.length) (i : Nat), i < E.size → (E.cells xs)[j * E.size + i]? = (E.enc xs[j])[i]?
 | x :: xs, 0, _, i, hi => by
  simp only [cells, List.flatMap_cons, Nat.zero_mul, Nat.zero_add, List.getElem_cons_zero]
  rw [List.getElem?_append_left (by rw [E.len]; exact hi)]
 | x :: xs, j + 1, h, i, hi => by
  have ih := cells_at xs j (by simpa using h) i hi
  simp only [cells, List.flatMap_cons, List.getElem_cons_succ]
  rw [List.getElem?_append_right (by rw [E.len, Nat.succ_mul]; omega), E.len, show (j + 1) * E.size + i - E.size = j * E.size + i by rw [Nat.succ_mul]; omega]
  exact ih
end Enc

section
variable {α : Type} (E : Enc α)
def GRow (w : World) (a : Option Addr) (xs : List α) : Prop :=
 0 < xs.length → ∃ b off, a = some ⟨b, off, none⟩ ∧ b < w.heap.size ∧ ∀ j (hj : j < xs.length) i, i < E.size → w.cell? ⟨b, off + j * E.size + i, none⟩ = (E.enc xs[j])[i]?
def GOwn (e : TypeId) (w : World) (base : Nat) (v : Value) (xs : List α) : Prop := w.ownsRow base e E.size v xs.length (E.cells xs)
end

section
variable {α : Type} {E : Enc α} {e : TypeId}
theorem GRow.below {w w' : World} {a : Option Addr} {xs : List α} (h : GRow E w a xs) (hb : Below w.heap.size w w') : GRow E w' a xs := fun h0 => by
 obtain ⟨b, off, rfl, hlt, hc⟩ := h h0
 exact ⟨b, off, rfl, Nat.lt_of_lt_of_le hlt hb.size, fun j hj i hi => (hb.cell (p := ⟨b, off + j * E.size + i, none⟩) hlt).trans (hc j hj i hi)⟩
theorem GRow.nil (w : World) (a : Option Addr) : GRow E w a [] := fun h => by simp at h
theorem GRow.drew {w : World} {a : Option Addr} {xs : List α} (h : GRow E w a xs) : GRow E w.drew a xs := h

theorem ownsBelow {w w' : World} {base e size n : Nat} {v : Value} {xs : List Value} (h : w.ownsRow base e size v n xs) (hb : Below w.heap.size w w') : w'.ownsRow base e size v n xs := by
 obtain ⟨h1, h2⟩ := h
 refine ⟨h1, ?_⟩
 rcases h2 with h2 | ⟨g, cap, cur, hv, hg, hh, r⟩
 ·exact Or.inl h2
 ·refine Or.inr ⟨g, cap, cur, hv, hg, ?_, r⟩
  have hlt : g < w.heap.size := by
   by_cases hz : g < w.heap.size
   ·exact hz
   ·rw [Array.getElem?_eq_none (by omega)] at hh
    cases hh
  rw [hb.block g hlt]; exact hh
theorem ownsMono {w : World} {base base' e size n : Nat} {v : Value} {xs : List Value} (h : w.ownsRow base e size v n xs) (hb : base' ≤ base) : w.ownsRow base' e size v n xs := by
 refine ⟨h.1, ?_⟩
 rcases h.2 with h1 | ⟨g, cap, cur, h1, h2, h3⟩
 ·exact Or.inl h1
 ·exact Or.inr ⟨g, cap, cur, h1, Nat.le_trans hb h2, h3⟩
theorem GOwn.below {w w' : World} {base : Nat} {v : Value} {l : List α} (h : GOwn E e w base v l) (hb : Below w.heap.size w w') : GOwn E e w' base v l := ownsBelow h hb
theorem GOwn.mono {w : World} {base base' : Nat} {v : Value} {l : List α} (h : GOwn E e w base v l) (hb : base' ≤ base) : GOwn E e w base' v l := ownsMono h hb
theorem GOwn.nil (w : World) (base : Nat) : GOwn E e w base (.slice none 0 0) [] := World.ownsRow_nil _ _ _ _
theorem GOwn.alloc {w : World} {base : Nat} {v : Value} {l : List α} (h : GOwn E e w base v l) (o : Obj) : GOwn E e (w.alloc o) base v l := World.ownsRow.alloc h o
theorem GOwn.drew {w : World} {base : Nat} {v : Value} {l : List α} (h : GOwn E e w base v l) : GOwn E e w.drew base v l := h

theorem GOwn.row {w : World} {base : Nat} {v : Value} {l : List α} (h : GOwn E e w base v l) : ∃ ao cap, v = .slice ao l.length cap ∧ GRow E w ao l := by
 have h0 := h
 rcases h.2 with ⟨rfl, h1⟩ | ⟨g, cap, cur, rfl, hg, hh, hnc, hcp, hcs, htake⟩
 ·exact ⟨none, 0, by rw [h1], fun h => by omega⟩
 ·refine ⟨_, cap, rfl, fun _ => ⟨g, 0, rfl, (World.ownsRow.lt h0 g rfl).2, fun j hj i hi => ?_⟩⟩
  have hlt : j * E.size + i < l.length * E.size := by
   have h1 : (j + 1) * E.size ≤ l.length * E.size := Nat.mul_le_mul_right _ hj
   rw [Nat.succ_mul] at h1; omega
  rw [Nat.zero_add, World.ownsRow.cellAt h0 (j * E.size + i) hlt]
  exact E.cells_at l j hj i hi
theorem GOwn.grow {w : World} {base : Nat} {a : Option Addr} {c : Nat} {l : List α} (h : GOwn E e w base (.slice a l.length c) l) : GRow E w a l := by
 obtain ⟨ao, cap, hv, hr⟩ := h.row
 cases hv
 exact hr

end

end Go.Proofs.Ytjeicgibddfifaa

namespace Go.Proofs.Ytjeicgibddfifaa
open Go.RowKit
open KM

def encR : Enc Rg := ⟨fun r => [.string r.1, .string r.2], 2, by decide, fun _ => rfl⟩
def encW : Enc Wt := ⟨fun x => [.string x.1, .string x.2.1, .bool x.2.2], 3, by decide, fun _ => rfl⟩

theorem rat {w : World} {b off : Nat} {xs : List Rg} (hc : ∀ j (hj : j < xs.length) i, i < encR.size → w.cell? ⟨b, off + j * encR.size + i, none⟩ = (encR.enc xs[j])[i]?) (j : Nat) (hj : j < xs.length) :
  w.cell? ⟨b, off + j * 2, none⟩ = some (.string xs[j].1) ∧ w.cell? ⟨b, off + j * 2 + 1, none⟩ = some (.string xs[j].2) := ⟨by simpa [encR] using hc j hj 0 (by decide), by simpa [encR] using hc j hj 1 (by decide)⟩
theorem wat {w : World} {b off : Nat} {xs : List Wt} (hc : ∀ j (hj : j < xs.length) i, i < encW.size → w.cell? ⟨b, off + j * encW.size + i, none⟩ = (encW.enc xs[j])[i]?) (j : Nat) (hj : j < xs.length) :
  w.cell? ⟨b, off + j * 3, none⟩ = some (.string xs[j].1) ∧ w.cell? ⟨b, off + j * 3 + 1, none⟩ = some (.string xs[j].2.1) ∧ w.cell? ⟨b, off + j * 3 + 2, none⟩ = some (.bool xs[j].2.2) := ⟨by simpa [encW] using hc j hj 0 (by decide), by simpa [encW] using hc j hj 1 (by decide), by simpa [encW] using hc j hj 2 (by decide)⟩

abbrev Vr := ByteArray × ByteArray × Bool × Int
def encV : Enc Vr := ⟨fun x => [.string x.1, .string x.2.1, .bool x.2.2.1, .int .i64 x.2.2.2], 4, by decide, fun _ => rfl⟩
theorem vat {w : World} {b off : Nat} {xs : List Vr} (hc : ∀ j (hj : j < xs.length) i, i < encV.size → w.cell? ⟨b, off + j * encV.size + i, none⟩ = (encV.enc xs[j])[i]?) (j : Nat) (hj : j < xs.length) :
  w.cell? ⟨b, off + j * 4, none⟩ = some (.string xs[j].1) ∧ w.cell? ⟨b, off + j * 4 + 1, none⟩ = some (.string xs[j].2.1) ∧ w.cell? ⟨b, off + j * 4 + 2, none⟩ = some (.bool xs[j].2.2.1) ∧ w.cell? ⟨b, off + j * 4 + 3, none⟩ = some (.int .i64 xs[j].2.2.2) := ⟨by simpa [encV] using hc j hj 0 (by decide), by simpa [encV] using hc j hj 1 (by decide), by simpa [encV] using hc j hj 2 (by decide), by simpa [encV] using hc j hj 3 (by decide)⟩
end Go.Proofs.Ytjeicgibddfifaa

namespace Go.Proofs.Ytjeicgibddfifaa
open KM
def WFit (xs : List Wt) : Prop := ∀ x ∈ xs, x.1.size ≤ 1048576 ∧ x.2.1.size ≤ 1048576
def RFit (xs : List Rg) : Prop := ∀ x ∈ xs, x.1.size ≤ 1048576 ∧ x.2.size ≤ 1048576
end Go.Proofs.Ytjeicgibddfifaa

namespace Go.Proofs.Ytjeicgibddfifaa
open Go.RowKit
open KM

structure Tx where
 id : Int
 st : Int
 snap : Int
 cs : Int
 rs : List Rg
 ws : List Wt
 out : Bool
 nm : ByteArray
def TFit (t : Tx) : Prop := t.rs.length ≤ 1048576 ∧ RFit t.rs ∧ t.ws.length ≤ 1048576 ∧ WFit t.ws ∧ t.nm.size ≤ 1048576
structure TRow (w : World) (t : Tx) (ra wa : Option Addr) : Prop where
 r : GRow encR w ra t.rs
 w : GRow encW w wa t.ws
theorem TRow.below {w w' : World} {t : Tx} {ra wa : Option Addr} (h : TRow w t ra wa) (hb : Below w.heap.size w w') : TRow w' t ra wa := ⟨h.r.below hb, h.w.below hb⟩
end Go.Proofs.Ytjeicgibddfifaa

namespace Go.Proofs.Ytjeicgibddfifaa
open Go.RowKit
open KM
attribute [local go_sem ↓] Go.wp_at_zero Go.wp_at_succ

end Go.Proofs.Ytjeicgibddfifaa

namespace Go.Proofs.Ytjeicgibddfifaa
open Go.RowKit
open KM
attribute [local go_sem ↓] Go.wp_at_zero Go.wp_at_succ

set_option maxHeartbeats 400000 in
theorem eqw (x0 : ByteArray) (x1 : ByteArray) (x2 : Bool) (w : World) :
  Calls Try.prog 81 #[.agg #[.string x0, .string x1, .bool x2], .agg #[.string x0, .string x1, .bool x2]] w fun e w' => e = .returned (.bool true) ∧ Below w.heap.size w w' := by
 have hbn2 := bne_self' x2
 go_enter Try.func81, Try.ntmps81
 go_wp2
 go_ret
 exact ⟨rfl, ((belowRefl w).alloc (Nat.le_refl _) _).alloc (by simp) _⟩

set_option maxRecDepth 100000 in
set_option maxHeartbeats 1000000 in
theorem eqSW (a1 a2 : Option Addr) (c1 c2 : Nat) (xs : List Wt) (hn : xs.length ≤ 100000000) (w : World) (h1 : GRow encW w a1 xs) (h2 : GRow encW w a2 xs) :
  Calls Try.prog 62 #[.slice a1 xs.length c1, .slice a2 xs.length c2] w fun e w' => e = .returned (.bool true) ∧ Below w.heap.size w w' := by
 have H1 : Hid (GRow encW w a1 xs) := h1
 have H2 : Hid (GRow encW w a2 xs) := h2
 clear h1 h2
 go_enter Try.func62, Try.ntmps62
 go_wp2
 go_loopw [5] (fun t wr => ∃ k : Nat, k ≤ xs.length ∧ t = .int .i64 k ∧ Hid (Below w.heap.size w wr)) (fun t _ => xs.length - (intOf t).toNat)
 case atStart => exact ⟨0, Nat.zero_le _, rfl, Below.refl _ _⟩
 case round =>
  obtain ⟨k, hk, rfl, HB⟩ := hrel
  by_cases hlt : k < xs.length
  ·have hlt' : (k : Int) < (xs.length : Int) := by omega
   have h0 : (0 : Int) ≤ (k : Int) := by omega
   obtain ⟨b1, off1, rfl, hl1, q1⟩ := (H1.out.below HB.out) (by omega)
   obtain ⟨b2, off2, rfl, hl2, q2⟩ := (H2.out.below HB.out) (by omega)
   have r10 := ((wat q1) k hlt).1
   have r11 := ((wat q1) k hlt).2.1
   have r12 := ((wat q1) k hlt).2.2
   have r20 := ((wat q2) k hlt).1
   have r21 := ((wat q2) k hlt).2.1
   have r22 := ((wat q2) k hlt).2.2
   clear q1 q2
   go_wp2
   go_region_held3 (fun w' => w'.cell? ⟨b1, off1 + k * 3, none⟩ = some (.string xs[k].1) ∧ w'.cell? ⟨b1, off1 + k * 3 + 1, none⟩ = some (.string xs[k].2.1) ∧ w'.cell? ⟨b1, off1 + k * 3 + 2, none⟩ = some (.bool xs[k].2.2) ∧ w'.cell? ⟨b2, off2 + k * 3, none⟩ = some (.string xs[k].1) ∧ w'.cell? ⟨b2, off2 + k * 3 + 1, none⟩ = some (.string xs[k].2.1) ∧ w'.cell? ⟨b2, off2 + k * 3 + 2, none⟩ = some (.bool xs[k].2.2)) (first | go_keep | exact ⟨(hbm.cell (p := ⟨b1, off1 + k * 3, none⟩) hl1).trans r10, (hbm.cell (p := ⟨b1, off1 + k * 3 + 1, none⟩) hl1).trans r11, (hbm.cell (p := ⟨b1, off1 + k * 3 + 2, none⟩) hl1).trans r12, (hbm.cell (p := ⟨b2, off2 + k * 3, none⟩) hl2).trans r20, (hbm.cell (p := ⟨b2, off2 + k * 3 + 1, none⟩) hl2).trans r21, (hbm.cell (p := ⟨b2, off2 + k * 3 + 2, none⟩) hl2).trans r22⟩) ((go_at_call 81; refine (eqw _ _ _ _).mono ?_; rintro e w2 ⟨rfl, hbm⟩))
   all_goals
    go_wp2
    go_roundw
    case rel => exact ⟨k + 1, by omega, by go_num, (HB.out.drew).trans (hbm.mono HB.out.size)⟩
    case measure => simp [intOf]; omega
  ·have hd : ¬ (k : Int) < (xs.length : Int) := by omega
   go_wp2
   go_ret
   exact ⟨rfl, HB.out⟩

set_option maxHeartbeats 400000 in
theorem eqr (x0 : ByteArray) (x1 : ByteArray) (w : World) :
  Calls Try.prog 80 #[.agg #[.string x0, .string x1], .agg #[.string x0, .string x1]] w fun e w' => e = .returned (.bool true) ∧ Below w.heap.size w w' := by
 go_enter Try.func80, Try.ntmps80
 go_wp2
 go_ret
 exact ⟨rfl, ((belowRefl w).alloc (Nat.le_refl _) _).alloc (by simp) _⟩

set_option maxRecDepth 100000 in
set_option maxHeartbeats 1000000 in
theorem eqSR (a1 a2 : Option Addr) (c1 c2 : Nat) (xs : List Rg) (hn : xs.length ≤ 100000000) (w : World) (h1 : GRow encR w a1 xs) (h2 : GRow encR w a2 xs) :
  Calls Try.prog 61 #[.slice a1 xs.length c1, .slice a2 xs.length c2] w fun e w' => e = .returned (.bool true) ∧ Below w.heap.size w w' := by
 have H1 : Hid (GRow encR w a1 xs) := h1
 have H2 : Hid (GRow encR w a2 xs) := h2
 clear h1 h2
 go_enter Try.func61, Try.ntmps61
 go_wp2
 go_loopw [5] (fun t wr => ∃ k : Nat, k ≤ xs.length ∧ t = .int .i64 k ∧ Hid (Below w.heap.size w wr)) (fun t _ => xs.length - (intOf t).toNat)
 case atStart => exact ⟨0, Nat.zero_le _, rfl, Below.refl _ _⟩
 case round =>
  obtain ⟨k, hk, rfl, HB⟩ := hrel
  by_cases hlt : k < xs.length
  ·have hlt' : (k : Int) < (xs.length : Int) := by omega
   have h0 : (0 : Int) ≤ (k : Int) := by omega
   obtain ⟨b1, off1, rfl, hl1, q1⟩ := (H1.out.below HB.out) (by omega)
   obtain ⟨b2, off2, rfl, hl2, q2⟩ := (H2.out.below HB.out) (by omega)
   have r10 := ((rat q1) k hlt).1
   have r11 := ((rat q1) k hlt).2
   have r20 := ((rat q2) k hlt).1
   have r21 := ((rat q2) k hlt).2
   clear q1 q2
   go_wp2
   go_region_held3 (fun w' => w'.cell? ⟨b1, off1 + k * 2, none⟩ = some (.string xs[k].1) ∧ w'.cell? ⟨b1, off1 + k * 2 + 1, none⟩ = some (.string xs[k].2) ∧ w'.cell? ⟨b2, off2 + k * 2, none⟩ = some (.string xs[k].1) ∧ w'.cell? ⟨b2, off2 + k * 2 + 1, none⟩ = some (.string xs[k].2)) (first | go_keep | exact ⟨(hbm.cell (p := ⟨b1, off1 + k * 2, none⟩) hl1).trans r10, (hbm.cell (p := ⟨b1, off1 + k * 2 + 1, none⟩) hl1).trans r11, (hbm.cell (p := ⟨b2, off2 + k * 2, none⟩) hl2).trans r20, (hbm.cell (p := ⟨b2, off2 + k * 2 + 1, none⟩) hl2).trans r21⟩) ((go_at_call 80; refine (eqr _ _ _).mono ?_; rintro e w2 ⟨rfl, hbm⟩))
   all_goals
    go_wp2
    go_roundw
    case rel => exact ⟨k + 1, by omega, by go_num, (HB.out.drew).trans (hbm.mono HB.out.size)⟩
    case measure => simp [intOf]; omega
  ·have hd : ¬ (k : Int) < (xs.length : Int) := by omega
   go_wp2
   go_ret
   exact ⟨rfl, HB.out⟩
end Go.Proofs.Ytjeicgibddfifaa

namespace Go.Proofs.Ytjeicgibddfifaa
open Go.RowKit
open KM
attribute [local go_sem ↓] Go.wp_at_zero Go.wp_at_succ

def VFit (xs : List Vr) : Prop := ∀ x ∈ xs, x.1.size ≤ 1048576 ∧ x.2.1.size ≤ 1048576

end Go.Proofs.Ytjeicgibddfifaa

namespace Go.Proofs.Ytjeicgibddfifaa
open Go.RowKit
open KM
structure Bx (w : World) (b : Nat) (cs : List Value) : Prop where
 lt : b < w.heap.size
 at' : ∀ j, j < cs.length → w.cell? ⟨b, j, none⟩ = cs[j]?
 fz : ∀ j, w.frozen? ⟨b, j, none⟩ = false
section
variable {w w' : World} {b : Nat} {cs : List Value}
theorem Bx.below (h : Bx w b cs) (hb : Below w.heap.size w w') : Bx w' b cs :=
 ⟨Nat.lt_of_lt_of_le h.lt hb.size, fun j hj => (hb.cell (p := ⟨b, j, none⟩) h.lt).trans (h.at' j hj), fun j => (hb.frozen (p := ⟨b, j, none⟩) h.lt).trans (h.fz j)⟩
theorem Bx.new (w : World) (cs : List Value) (T : Nat) : Bx (w.alloc (.cells cs.toArray T)) w.heap.size cs :=
 ⟨by simp, fun j hj => (World.cell?_alloc_mark w _ T (0, 0) j).trans (by simp), fun j => by
  rw [show (w.alloc (.cells cs.toArray T)).frozen? ⟨w.heap.size, j, none⟩ = _ from World.frozen?_alloc_mark w _ T 0 0 j]
  simp⟩
theorem Bx.alloc (h : Bx w b cs) (o : Obj) : Bx (w.alloc o) b cs := h.below ((belowRefl w).alloc (Nat.le_refl _) o)
theorem Bx.drew (h : Bx w b cs) : Bx w.drew b cs := h.below ((belowRefl w).drew)
theorem Bx.grown {g : Nat} (h : Bx w b cs) (hg : w.grownBy w' (some g)) (hne : b ≠ g) : Bx w' b cs := by
 have hb := hg.block b h.lt (fun e => hne (Option.some.inj e))
 refine ⟨Nat.lt_of_lt_of_le h.lt hg.size, fun j hj => (World.cell?_of_block (w := w) (a := ⟨b, j, none⟩) hb).trans (h.at' j hj), fun j => ?_⟩
 have := h.fz j
 unfold World.frozen? at this ⊢
 simp only at this ⊢
 rw [hb]; exact this
theorem Bx.c0 {x : Value} {r : List Value} (h : Bx w b (x :: r)) : w.cell? ⟨b, 0, none⟩ = some x := h.at' 0 (by simp)
theorem Bx.c1 {x y : Value} {r : List Value} (h : Bx w b (x :: y :: r)) : w.cell? ⟨b, 1, none⟩ = some y := h.at' 1 (by simp)
theorem Bx.c2 {x y z : Value} {r : List Value} (h : Bx w b (x :: y :: z :: r)) : w.cell? ⟨b, 2, none⟩ = some z := h.at' 2 (by simp)
theorem Bx.c3 {x y z u : Value} {r : List Value} (h : Bx w b (x :: y :: z :: u :: r)) : w.cell? ⟨b, 3, none⟩ = some u := h.at' 3 (by simp)
theorem Bx.c4 {x y z u v : Value} {r : List Value} (h : Bx w b (x :: y :: z :: u :: v :: r)) : w.cell? ⟨b, 4, none⟩ = some v := h.at' 4 (by simp)
end

structure Kn (bs : List Nat) (w w' : World) : Prop where
 os : w'.os = w.os
 tape : w'.tape = w.tape
 output : w'.output = w.output
 size : w.heap.size ≤ w'.heap.size
 block : ∀ j, j < w.heap.size → j ∉ bs → w'.heap[j]? = w.heap[j]?
theorem Kn.refl (bs : List Nat) (w : World) : Kn bs w w := ⟨rfl, rfl, rfl, Nat.le_refl _, fun _ _ _ => rfl⟩
theorem Kn.trans {bs : List Nat} {a b c : World} (h : Kn bs a b) (k : Kn bs b c) : Kn bs a c :=
 ⟨k.os.trans h.os, k.tape.trans h.tape, k.output.trans h.output, Nat.le_trans h.size k.size, fun j hj hn => (k.block j (Nat.lt_of_lt_of_le hj h.size) hn).trans (h.block j hj hn)⟩
theorem Kn.mono {bs cs : List Nat} {a b : World} (h : Kn bs a b) (hs : ∀ x ∈ bs, x ∈ cs) : Kn cs a b := ⟨h.os, h.tape, h.output, h.size, fun j hj hn => h.block j hj (fun m => hn (hs j m))⟩
theorem Kn.below {bs : List Nat} {base : Nat} {w w' : World} (h : Kn bs w w') (hb : base ≤ w.heap.size) (hs : ∀ x ∈ bs, base ≤ x) : Below base w w' :=
 ⟨h.os, h.tape, h.output, h.size, fun j hj => h.block j (by omega) (fun m => by have := hs j m; omega)⟩
abbrev Nd := Nat × Vr
def ptq (ns : List Nd) (q : Option Addr) : Option Addr := match ns with
 | [] => q
 | n :: _ => some ⟨n.1, 0, none⟩
def ndc (v : Vr) (q : Option Addr) : List Value := [.string v.1, .string v.2.1, .bool v.2.2.1, .int .i64 v.2.2.2, .pointer q]
def Seg (w : World) : List Nd → Option Addr → Prop
 | [], _ => True
 | n :: ns, q => Bx w n.1 (ndc n.2 (ptq ns q)) ∧ Seg w ns q
theorem seg_app {w : World} : ∀ (A B : List Nd) (q : Option Addr), Seg w (A ++ B) q ↔ Seg w A (ptq B q) ∧ Seg w B q
 | [], B, q => by simp [Seg]
 | n :: A, B, q => by
  have ih := seg_app (w := w) A B q
  have e : ptq (A ++ B) q = ptq A (ptq B q) := by cases A <;> rfl
  simp only [List.cons_append, Seg, e, ih, and_assoc]
theorem seg_below {w w' : World} (hb : Below w.heap.size w w') : ∀ (A : List Nd) (q : Option Addr), Seg w A q → Seg w' A q
 | [], _, _ => trivial
 | _ :: A, q, h => ⟨h.1.below hb, seg_below hb A q h.2⟩
theorem seg_lt {w : World} : ∀ (A : List Nd) (q : Option Addr), Seg w A q → ∀ n ∈ A, n.1 < w.heap.size
 | n :: A, q, h, m, hm => by
  rcases List.mem_cons.1 hm with rfl | hm
  ·exact h.1.lt
  ·exact seg_lt A q h.2 m hm
structure Chn (w : World) (base c : Nat) (all : List Nd) : Prop where
 bx : Bx w c [.pointer (ptq all none)]
 seg : Seg w all none
 nd : (c :: all.map (·.1)).Nodup
 lo : ∀ b ∈ c :: all.map (·.1), base ≤ b
theorem Chn.below {w w' : World} {base c : Nat} {all : List Nd} (h : Chn w base c all) (hb : Below w.heap.size w w') : Chn w' base c all := ⟨h.bx.below hb, seg_below hb _ _ h.seg, h.nd, h.lo⟩
theorem Chn.lt {w : World} {base c : Nat} {all : List Nd} (h : Chn w base c all) : ∀ b ∈ c :: all.map (·.1), b < w.heap.size := fun b hb => by
 rcases List.mem_cons.1 hb with rfl | hb
 ·exact h.bx.lt
 ·obtain ⟨n, hn, rfl⟩ := List.mem_map.1 hb
  exact seg_lt _ _ h.seg n hn

theorem Chn.at' {w : World} {base c : Nat} {A B : List Nd} {m : Nd} (h : Chn w base c (A ++ m :: B)) : Bx w m.1 (ndc m.2 (ptq B none)) := ((seg_app A (m :: B) none).1 h.seg).2.1
end Go.Proofs.Ytjeicgibddfifaa

namespace Go.Proofs.Ytjeicgibddfifaa
open Go.RowKit
open KM
attribute [local go_sem ↓] Go.wp_at_zero Go.wp_at_succ

section
variable {w : World} {b : Nat}
theorem Bx.c5 {x0 x1 x2 x3 x4 x5 : Value} {r : List Value} (h : Bx w b (x0 :: x1 :: x2 :: x3 :: x4 :: x5 :: r)) : w.cell? ⟨b, 5, none⟩ = some x5 := h.at' 5 (by simp)
theorem Bx.c6 {x0 x1 x2 x3 x4 x5 x6 : Value} {r : List Value} (h : Bx w b (x0 :: x1 :: x2 :: x3 :: x4 :: x5 :: x6 :: r)) : w.cell? ⟨b, 6, none⟩ = some x6 := h.at' 6 (by simp)
theorem Bx.c7 {x0 x1 x2 x3 x4 x5 x6 x7 : Value} {r : List Value} (h : Bx w b (x0 :: x1 :: x2 :: x3 :: x4 :: x5 :: x6 :: x7 :: r)) : w.cell? ⟨b, 7, none⟩ = some x7 := h.at' 7 (by simp)
end
end Go.Proofs.Ytjeicgibddfifaa

namespace Go.Proofs.Ytjeicgibddfifaa
open Go.RowKit
open KM
open Go.Sort
attribute [local go_sem ↓] Go.wp_at_zero Go.wp_at_succ

theorem hide {p : Prop} (h : p) : Hid p := h
theorem Bx.belowB {w w' : World} {b B : Nat} {cs : List Value} (h : Bx w b cs) (hb : Below B w w') (hlt : b < B) : Bx w' b cs :=
 ⟨Nat.lt_of_lt_of_le h.lt hb.size, fun j hj => (hb.cell (p := ⟨b, j, none⟩) hlt).trans (h.at' j hj), fun j => (hb.frozen (p := ⟨b, j, none⟩) hlt).trans (h.fz j)⟩
theorem GRow.grown {α : Type} {E : Enc α} {w w' : World} {ao : Option Addr} {xs : List α} {row : Option Nat} (h : GRow E w ao xs) (hg : w.grownBy w' row) (hne : ∀ b off, ao = some ⟨b, off, none⟩ → row ≠ some b) : GRow E w' ao xs := fun h0 => by
 obtain ⟨b, off, rfl, hlt, hc⟩ := h h0
 have hb := hg.block b hlt (fun e => hne b off rfl e.symm)
 exact ⟨b, off, rfl, Nat.lt_of_lt_of_le hlt hg.size, fun j hj i hi => (World.cell?_of_block (w := w) (a := ⟨b, off + j * E.size + i, none⟩) hb).trans (hc j hj i hi)⟩
end Go.Proofs.Ytjeicgibddfifaa

namespace Go.Proofs.Ytjeicgibddfifaa
open Go.RowKit
open KM
attribute [local go_sem ↓] Go.wp_at_zero Go.wp_at_succ

structure Lies {α : Type} (E : Enc α) (e : TypeId) (w : World) (lo hi : Nat) (v : Value) (xs : List α) : Prop where
 own : GOwn E e w lo v xs
 up : ∀ g, v.ownBlock = some g → g < hi
section
variable {α : Type} {E : Enc α} {e : TypeId}
theorem Lies.below {w w' : World} {lo hi : Nat} {v : Value} {xs : List α} (h : Lies E e w lo hi v xs) (hb : Below w.heap.size w w') : Lies E e w' lo hi v xs := ⟨h.own.below hb, h.up⟩
theorem Lies.lo {w : World} {lo hi : Nat} {v : Value} {xs : List α} (h : Lies E e w lo hi v xs) : ∀ g, v.ownBlock = some g → lo ≤ g ∧ g < hi := fun g hg => ⟨(World.ownsRow.lt h.own g hg).1, h.up g hg⟩
end
theorem ne_self_int (x : Int) : (x != x) = false := by simp

end Go.Proofs.Ytjeicgibddfifaa
