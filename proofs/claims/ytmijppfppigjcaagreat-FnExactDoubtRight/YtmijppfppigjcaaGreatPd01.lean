/- One operation of a region taken first: a short form of the library's law. -/
import Derived.Deep.RegionHeld3
import Derived.WalkKit
import Derived.WalkSpells
import Derived.WalkLawsBesides
import Derived.Test.YtmijppfppigjcaaGreatProg
import Derived.Deep.QuietTactic
import Derived.BigQuiet
import Derived.Deep.DrawnRows
import Derived.Deep.AppendLies
namespace Go.Proofs.YtmijppfppigjcaaGreat
open Go.RowKit
theorem tk {P : Program} {ops : Array Oper} {Q : Exit → Act → World → Prop} {md : Region.Mode} {S : World → Prop} (i : Nat) {oi : Oper} (v : Value) {fuel : Nat} {listed : Array Bool} {a : Act} {w : World} (hi : ops[i]? = some oi) (hy : YieldsIf P ops S oi v a) (h : wpAnyH P md ops Q S fuel (listed.setIfInBounds i true) (a.put oi.dst v) w) (hb : (Region.noSelect ops && (Region.free md ops listed i && (Region.ready md ops listed).contains i)) = true := by kernel_rfl) (hQ : ∀ (c : List PanicEntry) (a : Act) (w : World), Q (Exit.panic c) (a.put oi.dst v) w → Q (Exit.panic c) a w := by exact fun _ _ _ h => h) (hS : S w := by assumption) : wpAnyH P md ops Q S (fuel + 1) listed a w := by
  rw [Bool.and_eq_true, Bool.and_eq_true] at hb
  exact wpAnyH_take hi hb.1 hb.2.1 hb.2.2 hQ hy hS h
theorem ti {P : Program} {ops : Array Oper} {Q : Exit → Act → World → Prop} {md : Region.Mode} {S : World → Prop} (i : Nat) {oi : Oper} {v : Value} {fuel : Nat} {listed : Array Bool} {a : Act} {w : World} (h : wpAnyH P md ops Q S fuel (listed.setIfInBounds i true) (a.put oi.dst v) w)
    (hi : ops[i]? = some oi := by exact rfl) (hw : Region.wanted oi (yielded ops a.tmps) = true := by exact rfl) (hv : ∀ w, S w → (execOp a.eval oi).run P w = .ok (.value v) w := by (intro w h; (try dsimp only at h); go_simp; (try with_reducible rfl)))
    (hb : (Region.noSelect ops && (Region.free md ops listed i && (Region.ready md ops listed).contains i)) = true := by kernel_rfl) (hQ : ∀ (c : List PanicEntry) (a : Act) (w : World), Q (Exit.panic c) (a.put oi.dst v) w → Q (Exit.panic c) a w := by exact fun _ _ _ h => h) (hS : S w := by assumption) : wpAnyH P md ops Q S (fuel + 1) listed a w := by
  rw [Bool.and_eq_true, Bool.and_eq_true] at hb
  exact wpAnyH_take hi hb.1 hb.2.1 hb.2.2 hQ (Or.inl ⟨hw, hv⟩) hS h
theorem tu {P : Program} {ops : Array Oper} {Q : Exit → Act → World → Prop} {md : Region.Mode} {S : World → Prop} (i : Nat) {oi : Oper} {fuel : Nat} {listed : Array Bool} {a : Act} {w : World} (h : wpAnyH P md ops Q S fuel (listed.setIfInBounds i true) (a.put oi.dst undef) w)
    (hi : ops[i]? = some oi := by exact rfl) (hw : Region.wanted oi (yielded ops a.tmps) = false := by exact rfl)
    (hb : (Region.noSelect ops && (Region.free md ops listed i && (Region.ready md ops listed).contains i)) = true := by kernel_rfl) (hQ : ∀ (c : List PanicEntry) (a : Act) (w : World), Q (Exit.panic c) (a.put oi.dst undef) w → Q (Exit.panic c) a w := by exact fun _ _ _ h => h) (hS : S w := by assumption) : wpAnyH P md ops Q S (fuel + 1) listed a w := by
  rw [Bool.and_eq_true, Bool.and_eq_true] at hb
  exact wpAnyH_take hi hb.1 hb.2.1 hb.2.2 hQ (Or.inr ⟨hw, rfl⟩) hS h
theorem tA {α : Type _} {xs : List α} {i : Nat} (h : i < xs.toArray.size) : xs.toArray[i] = xs[i]'(by simpa using h) := List.getElem_toArray h
theorem tB {α : Type _} (a : α) (bs : List α) (h : 0 < (a :: bs).length) : (a :: bs)[0] = a := List.getElem_cons_zero a bs h
theorem tC {α : Type _} (a : α) (bs : List α) (i : Nat) (h : i + 1 < (a :: bs).length) : (a :: bs)[i + 1] = bs[i]'(by simpa using h) := List.getElem_cons_succ a bs i h
theorem tD {α : Type _} (l : List α) (i : Nat) (a : α) : l.toArray.setIfInBounds i a = (l.set i a).toArray := List.setIfInBounds_toArray l i a
theorem tE {α : Type _} {x : α} {xs : List α} {a : α} : (x :: xs).set 0 a = a :: xs := List.set_cons_zero
theorem tF {α : Type _} {x : α} {xs : List α} {i : Nat} {a : α} : (x :: xs).set (i + 1) a = x :: xs.set i a := List.set_cons_succ

end Go.Proofs.YtmijppfppigjcaaGreat

namespace Go.Proofs.YtmijppfppigjcaaGreat
namespace KM

theorem less_irrefl : ∀ a : List UInt8, Op.bytesLess a a = false
 | [] => rfl
 | x :: a => by simp [Op.bytesLess, less_irrefl a]
theorem less_total : ∀ a b : List UInt8, Op.bytesLess a b = false → a ≠ b → Op.bytesLess b a = true
 | [], [], _, h => absurd rfl h
 | [], _ :: _, h, _ => by simp [Op.bytesLess] at h
 | _ :: _, [], _, _ => by simp [Op.bytesLess]
 | x :: a, y :: b, h, hn => by
  simp only [Op.bytesLess, Bool.or_eq_false_iff, decide_eq_false_iff_not, Bool.or_eq_true, decide_eq_true_eq, Bool.and_eq_true, beq_iff_eq] at h ⊢
  by_cases e : x = y
  ·subst e
   refine Or.inr ⟨rfl, less_total a b ?_ (fun e => hn (by rw [e]))⟩
   simpa using h.2
  ·refine Or.inl ?_
   have h1 := h.1
   rcases Nat.lt_trichotomy x.toNat y.toNat with h2 | h2 | h2
   ·exact absurd (UInt8.lt_iff_toNat_lt.2 h2) h1
   ·exact absurd (UInt8.toNat_inj.1 h2) e
   ·exact UInt8.lt_iff_toNat_lt.2 h2
theorem less_asymm : ∀ a b : List UInt8, Op.bytesLess a b = true → Op.bytesLess b a = false
 | [], [], h => by simp [Op.bytesLess] at h
 | [], _ :: _, _ => by simp [Op.bytesLess]
 | _ :: _, [], h => by simp [Op.bytesLess] at h
 | x :: a, y :: b, h => by
  simp only [Op.bytesLess, Bool.or_eq_true, decide_eq_true_eq, Bool.and_eq_true, beq_iff_eq] at h
  simp only [Op.bytesLess, Bool.or_eq_false_iff, decide_eq_false_iff_not, Bool.and_eq_false_iff, beq_eq_false_iff_ne]
  rcases h with h | ⟨rfl, h⟩
  ·have h' := UInt8.lt_iff_toNat_lt.1 h
   refine ⟨fun h2 => ?_, Or.inl (fun e => ?_)⟩
   ·have := UInt8.lt_iff_toNat_lt.1 h2; omega
   ·subst e; omega
  ·exact ⟨fun h2 => by have := UInt8.lt_iff_toNat_lt.1 h2; omega, Or.inr (less_asymm a b h)⟩

def le (a b : ByteArray) : Bool := Op.bytesLess a.toList b.toList || a.toList == b.toList
def lt (a b : ByteArray) : Bool := Op.bytesLess a.toList b.toList

theorem not_lt (a b : ByteArray) : (!Op.bytesLess a.toList b.toList) = le b a := by
 unfold le
 cases h : Op.bytesLess a.toList b.toList
 ·by_cases e : a.toList = b.toList
  ·simp [e]
  ·simp [less_total _ _ h e]
 ·have h2 := less_asymm _ _ h
  have h3 : (b.toList == a.toList) = false := by
   rw [beq_eq_false_iff_ne]
   intro e
   rw [e, less_irrefl] at h
   cases h
  simp [h2, h3]

def lets (l : List UInt8) : Bool := l.all fun b => decide (97 ≤ b.toNat ∧ b.toNat ≤ 122)
def keyB (s : ByteArray) : Bool := decide (1 ≤ s.size ∧ s.size ≤ 3) && lets s.data.toList

abbrev Rg := ByteArray × ByteArray
def inB (r : Rg) (k : ByteArray) : Bool := le r.1 k && le k r.2

abbrev Wt := ByteArray × ByteArray × Bool
def writeB (x : Wt) : Bool := keyB x.1 && decide (x.2.1.size ≤ 12) && (!x.2.2 || x.2.1.toList.isEmpty)

def touchB (rs : List Rg) (ws : List Wt) : Bool := rs.any fun r => ws.any fun x => inB r x.1
def meetB (xs ys : List Wt) : Bool := xs.any fun x => ys.any fun y => decide (x.1 = y.1)
end KM
end Go.Proofs.YtmijppfppigjcaaGreat

namespace Go.Proofs.YtmijppfppigjcaaGreat
open Go.RowKit
open KM
attribute [local go_sem ↓] Go.wp_at_zero Go.wp_at_succ

theorem ret_bool {a b : Bool} (h : a = b) : Ending.returned (.bool a) = .returned (.bool b) := by rw [h]
theorem belowRefl (w : World) : Below w.heap.size w w := Below.refl _ _
theorem bcell {W w1 : World} (hb : Below W.heap.size W w1) : (∀ b o, b < W.heap.size → w1.cell? ⟨b, o, none⟩ = W.cell? ⟨b, o, none⟩) ∧ (∀ b o, b < W.heap.size → w1.frozen? ⟨b, o, none⟩ = W.frozen? ⟨b, o, none⟩) :=
 ⟨fun b o h => hb.cell (p := ⟨b, o, none⟩) h, fun b o h => hb.frozen (p := ⟨b, o, none⟩) h⟩
theorem below_drewN {B : Nat} {a w : World} (h : Below B a w) (n : Nat) : Below B a (w.drewN n) := h.trans ⟨rfl, rfl, rfl, Nat.le_refl _, fun _ _ => rfl⟩

end Go.Proofs.YtmijppfppigjcaaGreat

namespace Go.Proofs.YtmijppfppigjcaaGreat
open Go.RowKit
open KM
attribute [local go_sem ↓] Go.wp_at_zero Go.wp_at_succ

theorem bne_self' (b : Bool) : (b != b) = false := by cases b <;> rfl

def Room (a b : ByteArray) (left r : Int) : Prop := r < 0 ∨ (0 ≤ r ∧ r ≤ left ∧ (a.size : Int) + b.size + r = left)

set_option maxRecDepth 100000 in
set_option maxHeartbeats 1000000 in
theorem szr (f t : ByteArray) (left : Int) (h0 : 0 ≤ left) (hl : left ≤ 1048576) (hf : f.size ≤ maxLen) (ht : t.size ≤ maxLen) (w : World) :
  Calls Tryz.prog 79 #[.agg #[.string f, .string t], .int .i64 left] w fun e w' => ∃ r : Int, e = .returned (.int .i64 r) ∧ Room f t left r ∧ Below w.heap.size w w' := by
 unfold maxLen at hf ht
 have e1 : IntKind.i64.wrap (left - (f.size : Int)) = left - f.size := by rw [IntKind.wrap_i64]; omega
 by_cases h1 : left - (f.size : Int) < 0
 ·go_enter Tryz.func79, Tryz.ntmps79
  go_wp2
  go_ret
  exact ⟨_, rfl, Or.inl (by omega), (belowRefl w).alloc (Nat.le_refl _) _⟩
 have h1' : ¬ left - (f.size : Int) < 0 := h1
 have e2 : IntKind.i64.wrap (left - (f.size : Int) - (t.size : Int)) = left - f.size - t.size := by rw [IntKind.wrap_i64]; omega
 by_cases h2 : left - (f.size : Int) - (t.size : Int) < 0
 ·go_enter Tryz.func79, Tryz.ntmps79
  go_wp2
  go_ret
  exact ⟨_, rfl, Or.inl (by omega), (belowRefl w).alloc (Nat.le_refl _) _⟩
 ·have h2' : ¬ left - (f.size : Int) - (t.size : Int) < 0 := h2
  go_enter Tryz.func79, Tryz.ntmps79
  go_wp2
  go_ret
  exact ⟨_, rfl, Or.inr ⟨by omega, by omega, by omega⟩, (belowRefl w).alloc (Nat.le_refl _) _⟩

set_option maxHeartbeats 400000 in
theorem tor (f t : ByteArray) (w : World) :
  Calls Tryz.prog 86 #[.agg #[.string f, .string t]] w fun e w' => e = .returned (.agg #[.string f, .string t]) ∧ Below w.heap.size w w' := by
 go_enter Tryz.func86, Tryz.ntmps86
 go_wp2
 exact bodyPost_ret (v := .agg #[.string f, .string t]) (by simp [results, Tryz.results86, go_sem]) rfl ⟨rfl, (((belowRefl w).alloc (Nat.le_refl _) _).alloc (by simp) _).alloc (by simp; omega) _⟩

structure Box (w : World) (b : Nat) (cs : List Value) : Prop where
 lt : b < w.heap.size
 at' : ∀ j, j < cs.length → w.cell? ⟨b, j, none⟩ = cs[j]?
theorem Box.below {w w' : World} {b : Nat} {cs : List Value} (h : Box w b cs) (hb : Below w.heap.size w w') : Box w' b cs :=
 ⟨Nat.lt_of_lt_of_le h.lt hb.size, fun j hj => (hb.cell (p := ⟨b, j, none⟩) h.lt).trans (h.at' j hj)⟩
theorem Box.new (w : World) (cs : List Value) (T : Nat) : Box (w.alloc (.cells cs.toArray T)) w.heap.size cs :=
 ⟨by simp, fun j hj => (World.cell?_alloc_mark w _ T (0, 0) j).trans (by simp)⟩
theorem Box.c0 {w : World} {b : Nat} {x : Value} {r : List Value} (h : Box w b (x :: r)) : w.cell? ⟨b, 0, none⟩ = some x := h.at' 0 (by simp)
theorem Box.c1 {w : World} {b : Nat} {x y : Value} {r : List Value} (h : Box w b (x :: y :: r)) : w.cell? ⟨b, 1, none⟩ = some y := h.at' 1 (by simp)
theorem Box.c2 {w : World} {b : Nat} {x y z : Value} {r : List Value} (h : Box w b (x :: y :: z :: r)) : w.cell? ⟨b, 2, none⟩ = some z := h.at' 2 (by simp)

theorem Box.c3 {w : World} {b : Nat} {x y z u : Value} {r : List Value} (h : Box w b (x :: y :: z :: u :: r)) : w.cell? ⟨b, 3, none⟩ = some u := h.at' 3 (by simp)

set_option maxRecDepth 100000 in
set_option maxHeartbeats 1000000 in
theorem szv (f t : ByteArray) (g : Bool) (cs : Int) (left : Int) (h0 : 0 ≤ left) (hl : left ≤ 1048576) (hf : f.size ≤ maxLen) (ht : t.size ≤ maxLen) (w : World) :
  Calls Tryz.prog 116 #[.agg #[.string f, .string t, .bool g, .int .i64 cs], .int .i64 left] w fun e w' => ∃ r : Int, e = .returned (.int .i64 r) ∧ Room f t left r ∧ Below w.heap.size w w' := by
 unfold maxLen at hf ht
 have e1 : IntKind.i64.wrap (left - (f.size : Int)) = left - f.size := by rw [IntKind.wrap_i64]; omega
 by_cases h1 : left - (f.size : Int) < 0
 ·go_enter Tryz.func116, Tryz.ntmps116
  go_wp2
  go_ret
  exact ⟨_, rfl, Or.inl (by omega), (belowRefl w).alloc (Nat.le_refl _) _⟩
 have h1' : ¬ left - (f.size : Int) < 0 := h1
 have e2 : IntKind.i64.wrap (left - (f.size : Int) - (t.size : Int)) = left - f.size - t.size := by rw [IntKind.wrap_i64]; omega
 by_cases h2 : left - (f.size : Int) - (t.size : Int) < 0
 ·go_enter Tryz.func116, Tryz.ntmps116
  go_wp2
  go_ret
  exact ⟨_, rfl, Or.inl (by omega), (belowRefl w).alloc (Nat.le_refl _) _⟩
 ·have h2' : ¬ left - (f.size : Int) - (t.size : Int) < 0 := h2
  go_enter Tryz.func116, Tryz.ntmps116
  go_wp2
  go_ret
  exact ⟨_, rfl, Or.inr ⟨by omega, by omega, by omega⟩, (belowRefl w).alloc (Nat.le_refl _) _⟩

set_option maxHeartbeats 400000 in
theorem tov (f t : ByteArray) (g : Bool) (cs : Int) (w : World) :
  Calls Tryz.prog 118 #[.agg #[.string f, .string t, .bool g, .int .i64 cs]] w fun e w' => e = .returned (.agg #[.string f, .string t, .bool g, .int .i64 cs]) ∧ Below w.heap.size w w' := by
 go_enter Tryz.func118, Tryz.ntmps118
 go_wp2
 exact bodyPost_ret (v := .agg #[.string f, .string t, .bool g, .int .i64 cs]) (by simp [results, Tryz.results118, go_sem]) rfl ⟨rfl, (((belowRefl w).alloc (Nat.le_refl _) _).alloc (by simp) _).alloc (by simp; omega) _⟩
end Go.Proofs.YtmijppfppigjcaaGreat

namespace Go.Proofs.YtmijppfppigjcaaGreat
open Go.RowKit

structure Enc (α : Type) where
 enc : α → List Value
 size : Nat
 pos : 0 < size
 len : ∀ x, (enc x).length = size
namespace Enc
variable {α : Type} (E : Enc α)
def cells (xs : List α) : List Value := xs.flatMap E.enc
theorem cells_len : ∀ xs : List α, (E.cells xs).length = xs.length * E.size
 | [] => by simp [cells]
 | x :: xs => by
  have := cells_len xs
  simp only [cells, List.flatMap_cons, List.length_append, List.length_cons, E.len] at this ⊢
  rw [this, Nat.succ_mul]; omega
theorem cells_app (a b : List α) : E.cells (a ++ b) = E.cells a ++ E.cells b := by simp [cells]
theorem cells_at : ∀ (xs : List α) (j : Nat) (h : j < xs.length) (i : Nat), i < E.size → (E.cells xs)[j * E.size + i]? = (E.enc xs[j])[i]?
 | x :: xs, 0, _, i, hi => by
  simp only [cells, List.flatMap_cons, Nat.zero_mul, Nat.zero_add, List.getElem_cons_zero]
  rw [List.getElem?_append_left (by rw [E.len]; exact hi)]
 | x :: xs, j + 1, h, i, hi => by
  have ih := cells_at xs j (by simpa using h) i hi
  simp only [cells, List.flatMap_cons, List.getElem_cons_succ]
  rw [List.getElem?_append_right (by rw [E.len, Nat.succ_mul]; omega), E.len, show (j + 1) * E.size + i - E.size = j * E.size + i by rw [Nat.succ_mul]; omega]
  exact ih
end Enc

section
variable {α : Type} (E : Enc α)
def GRow (w : World) (a : Option Addr) (xs : List α) : Prop :=
 0 < xs.length → ∃ b off, a = some ⟨b, off, none⟩ ∧ b < w.heap.size ∧ ∀ j (hj : j < xs.length) i, i < E.size → w.cell? ⟨b, off + j * E.size + i, none⟩ = (E.enc xs[j])[i]?
def GOwn (e : TypeId) (w : World) (base : Nat) (v : Value) (xs : List α) : Prop := w.ownsRow base e E.size v xs.length (E.cells xs)
end

section
variable {α : Type} {E : Enc α} {e : TypeId}
theorem GRow.below {w w' : World} {a : Option Addr} {xs : List α} (h : GRow E w a xs) (hb : Below w.heap.size w w') : GRow E w' a xs := fun h0 => by
 obtain ⟨b, off, rfl, hlt, hc⟩ := h h0
 exact ⟨b, off, rfl, Nat.lt_of_lt_of_le hlt hb.size, fun j hj i hi => (hb.cell (p := ⟨b, off + j * E.size + i, none⟩) hlt).trans (hc j hj i hi)⟩
theorem GRow.nil (w : World) (a : Option Addr) : GRow E w a [] := fun h => by simp at h
theorem GRow.drew {w : World} {a : Option Addr} {xs : List α} (h : GRow E w a xs) : GRow E w.drew a xs := h

theorem ownsBelow {w w' : World} {base e size n : Nat} {v : Value} {xs : List Value} (h : w.ownsRow base e size v n xs) (hb : Below w.heap.size w w') : w'.ownsRow base e size v n xs := by
 obtain ⟨h1, h2⟩ := h
 refine ⟨h1, ?_⟩
 rcases h2 with h2 | ⟨g, cap, cur, hv, hg, hh, r⟩
 ·exact Or.inl h2
 ·refine Or.inr ⟨g, cap, cur, hv, hg, ?_, r⟩
  have hlt : g < w.heap.size := by
   by_cases hz : g < w.heap.size
   ·exact hz
   ·rw [Array.getElem?_eq_none (by omega)] at hh
    cases hh
  rw [hb.block g hlt]; exact hh
theorem ownsMono {w : World} {base base' e size n : Nat} {v : Value} {xs : List Value} (h : w.ownsRow base e size v n xs) (hb : base' ≤ base) : w.ownsRow base' e size v n xs := by
 refine ⟨h.1, ?_⟩
 rcases h.2 with h1 | ⟨g, cap, cur, h1, h2, h3⟩
 ·exact Or.inl h1
 ·exact Or.inr ⟨g, cap, cur, h1, Nat.le_trans hb h2, h3⟩
theorem GOwn.below {w w' : World} {base : Nat} {v : Value} {l : List α} (h : GOwn E e w base v l) (hb : Below w.heap.size w w') : GOwn E e w' base v l := ownsBelow h hb
theorem GOwn.mono {w : World} {base base' : Nat} {v : Value} {l : List α} (h : GOwn E e w base v l) (hb : base' ≤ base) : GOwn E e w base' v l := ownsMono h hb
theorem GOwn.nil (w : World) (base : Nat) : GOwn E e w base (.slice none 0 0) [] := World.ownsRow_nil _ _ _ _
theorem GOwn.empty (w : World) (base : Nat) (hb : base ≤ w.heap.size) : GOwn E e (w.alloc (.cells #[] e)) base (.slice (some ⟨w.heap.size, 0, none⟩) 0 0) [] :=
 World.ownsRow_lit (size := E.size) w #[] 0 hb (by unfold maxLen; omega) (by simp)
theorem GOwn.alloc {w : World} {base : Nat} {v : Value} {l : List α} (h : GOwn E e w base v l) (o : Obj) : GOwn E e (w.alloc o) base v l := World.ownsRow.alloc h o
theorem GOwn.set {w : World} {base : Nat} {v : Value} {l : List α} (h : GOwn E e w base v l) {a : Addr} (ha : a.block < base) (u : Value) : GOwn E e (w.setCell a u) base v l := ownsRow_setCell_below h ha u
theorem GOwn.drew {w : World} {base : Nat} {v : Value} {l : List α} (h : GOwn E e w base v l) : GOwn E e w.drew base v l := h

theorem GOwn.row {w : World} {base : Nat} {v : Value} {l : List α} (h : GOwn E e w base v l) : ∃ ao cap, v = .slice ao l.length cap ∧ GRow E w ao l := by
 have h0 := h
 rcases h.2 with ⟨rfl, h1⟩ | ⟨g, cap, cur, rfl, hg, hh, hnc, hcp, hcs, htake⟩
 ·exact ⟨none, 0, by rw [h1], fun h => by omega⟩
 ·refine ⟨_, cap, rfl, fun _ => ⟨g, 0, rfl, (World.ownsRow.lt h0 g rfl).2, fun j hj i hi => ?_⟩⟩
  have hlt : j * E.size + i < l.length * E.size := by
   have h1 : (j + 1) * E.size ≤ l.length * E.size := Nat.mul_le_mul_right _ hj
   rw [Nat.succ_mul] at h1; omega
  rw [Nat.zero_add, World.ownsRow.cellAt h0 (j * E.size + i) hlt]
  exact E.cells_at l j hj i hi
theorem GOwn.grow {w : World} {base : Nat} {a : Option Addr} {c : Nat} {l : List α} (h : GOwn E e w base (.slice a l.length c) l) : GRow E w a l := by
 obtain ⟨ao, cap, hv, hr⟩ := h.row
 cases hv
 exact hr

theorem gown_of {w : World} {base g n : Nat} {cs : List Value} {xs : List α} (hn : n = xs.length) (h : w.ownsRow base e E.size (.slice (some ⟨g, 0, none⟩) n n) n cs) (hx : ∀ j, j < n * E.size → cs[j]? = (E.cells xs)[j]?) : GOwn E e w base (.slice (some ⟨g, 0, none⟩) xs.length n) xs := by
 have e' : cs = E.cells xs := by
  apply List.ext_getElem?
  intro j
  by_cases hj : j < n * E.size
  ·exact hx j hj
  ·rw [List.getElem?_eq_none (by have := h.1; omega), List.getElem?_eq_none (by rw [E.cells_len, ← hn]; omega)]
 subst hn
 rw [e'] at h
 exact h
end

theorem mkRow (T e size bytes : Nat) (z : Value) (hT : Tryz.prog.underlying T = some (.slice e))
  (hinfo : (Tryz.prog.info? e).map (fun i => (i.zero, i.size, i.bytes)) = some (some z, size, bytes)) (n : Nat) (hn : n ≤ 100000000) (hby : bytes ≤ 64) (w : World) :
  (Instr.makeSlice T (.int .i64 (n : Int)) (.int .i64 (n : Int))).run Tryz.prog w = .ok (.slice (some ⟨w.heap.size, 0, none⟩) n n) (w.alloc (.cells (madeCells z.cells (n * size)) e)) := by
 obtain ⟨i0, hi, hz0, hz1, hz2⟩ := info_parts hinfo
 have hb : (bytes : Int) * (n : Int) ≤ 281474976710656 := by
  have h : bytes * n ≤ 64 * 100000000 := Nat.mul_le_mul hby hn
  have h2 : ((bytes * n : Nat) : Int) ≤ 281474976710656 := by omega
  rwa [Int.natCast_mul] at h2
 have h := run_make (P := Tryz.prog) w T e i0 z hT hi hz0 .i64 .i64 n n (by omega) (Int.le_refl _) (by rw [hz2]; exact hb) (by omega)
 rw [hz1] at h
 simpa using h

theorem wpAppG {ops : Array Oper} {rest : List Oper} {o : Oper} {a : Act} {Q : Exit → Act → World → Prop} (T e size bytes : Nat) (z : Value) (hT : Tryz.prog.underlying T = some (.slice e))
  (hinfo : (Tryz.prog.info? e).map (fun i => (i.zero, i.size, i.bytes)) = some (some z, size, bytes)) (hzs : z.cells.size = size) (hsz : 0 < size) (hby : bytes ≤ 64)
  (hgd : o.guard = none) (s x : Operand) (ho : o.op = .call { callee := .builtin .append, args := #[s, x], argTypes := #[T, T] })
  {W : World} {base g n : Nat} {v : Value} {xs : List Value} (news : List Value)
  (hs : a.eval s = v) (hown : W.ownsRow base e size v n xs) (hx : a.eval x = .slice (some ⟨g, 0, none⟩) 1 1) (hblk : W.heap[g]? = some (.cells news.toArray e (0, 0)))
  (hl : news.length = size) (h1 : ∀ u ∈ news, u.oneCell' = true) (hlen : n ≤ 100000000) (hB : base ≤ W.heap.size)
  (h : ∀ g' cap w', w'.ownsRow base e size (.slice (some ⟨g', 0, none⟩) (n + 1) cap) (n + 1) (xs ++ news) → Below base W w' → wpList Tryz.prog ops Q rest (a.put o.dst (.slice (some ⟨g', 0, none⟩) (n + 1) cap)) w') :
  wpList Tryz.prog ops Q (o :: rest) a W := by
 obtain ⟨i0, hi, hz0, hz1, hz2⟩ := info_parts hinfo
 refine wpList_append_lies _ hgd s x T ho base e i0 z size bytes hT hi hz0 hz1 hz2 hzs hsz v n xs hs hown ⟨g, 0, none⟩ 1 1 news hx (by omega) ?_ h1 (by omega) (by unfold maxLen; omega) ?_ hB _ rfl ?_
 ·intro j u hj
  rw [Addr.add_lit, Nat.zero_add, World.cell?, hblk]
  simpa using hj
 ·calc (n + 1) * bytes ≤ 100000001 * 64 := Nat.mul_le_mul (by omega) hby
   _ ≤ _ := by omega
 ·intro g' cap w' h1 h2 _ _
  exact h g' cap w' h1 ((Below.refl _ _).grown h2 hB (fun j hj => (World.ownsRow.lt hown j hj).1))
end Go.Proofs.YtmijppfppigjcaaGreat

namespace Go.Proofs.YtmijppfppigjcaaGreat
open Go.RowKit
open KM

def encR : Enc Rg := ⟨fun r => [.string r.1, .string r.2], 2, by decide, fun _ => rfl⟩
def encW : Enc Wt := ⟨fun x => [.string x.1, .string x.2.1, .bool x.2.2], 3, by decide, fun _ => rfl⟩

theorem Tryz.info9 : (Tryz.prog.info? 9).map (fun i => (i.zero, i.size, i.bytes)) = some (some (.string ByteArray.empty), 1, 16) := by kernel_rfl
theorem Tryz.info156 : (Tryz.prog.info? 156).map (fun i => (i.zero, i.size, i.bytes)) = some (some (.agg #[.string ByteArray.empty, .string ByteArray.empty]), 2, 32) := by kernel_rfl
theorem Tryz.info148 : (Tryz.prog.info? 148).map (fun i => (i.zero, i.size, i.bytes)) = some (some (.agg #[.string ByteArray.empty, .string ByteArray.empty, .bool false]), 3, 40) := by kernel_rfl

theorem rat {w : World} {b off : Nat} {xs : List Rg} (hc : ∀ j (hj : j < xs.length) i, i < encR.size → w.cell? ⟨b, off + j * encR.size + i, none⟩ = (encR.enc xs[j])[i]?) (j : Nat) (hj : j < xs.length) :
  w.cell? ⟨b, off + j * 2, none⟩ = some (.string xs[j].1) ∧ w.cell? ⟨b, off + j * 2 + 1, none⟩ = some (.string xs[j].2) := ⟨by simpa [encR] using hc j hj 0 (by decide), by simpa [encR] using hc j hj 1 (by decide)⟩
theorem wat {w : World} {b off : Nat} {xs : List Wt} (hc : ∀ j (hj : j < xs.length) i, i < encW.size → w.cell? ⟨b, off + j * encW.size + i, none⟩ = (encW.enc xs[j])[i]?) (j : Nat) (hj : j < xs.length) :
  w.cell? ⟨b, off + j * 3, none⟩ = some (.string xs[j].1) ∧ w.cell? ⟨b, off + j * 3 + 1, none⟩ = some (.string xs[j].2.1) ∧ w.cell? ⟨b, off + j * 3 + 2, none⟩ = some (.bool xs[j].2.2) := ⟨by simpa [encW] using hc j hj 0 (by decide), by simpa [encW] using hc j hj 1 (by decide), by simpa [encW] using hc j hj 2 (by decide)⟩

abbrev Vr := ByteArray × ByteArray × Bool × Int
def encV : Enc Vr := ⟨fun x => [.string x.1, .string x.2.1, .bool x.2.2.1, .int .i64 x.2.2.2], 4, by decide, fun _ => rfl⟩
def encS : Enc ByteArray := ⟨fun x => [.string x], 1, by decide, fun _ => rfl⟩
def encI : Enc Int := ⟨fun x => [.int .i64 x], 1, by decide, fun _ => rfl⟩
theorem Tryz.info150 : (Tryz.prog.info? 150).map (fun i => (i.zero, i.size, i.bytes)) = some (some (.agg #[.string ByteArray.empty, .string ByteArray.empty, .bool false, .int .i64 0]), 4, 48) := by kernel_rfl
theorem Tryz.info3 : (Tryz.prog.info? 3).map (fun i => (i.zero, i.size, i.bytes)) = some (some (.int .i64 0), 1, 8) := by kernel_rfl
theorem vat {w : World} {b off : Nat} {xs : List Vr} (hc : ∀ j (hj : j < xs.length) i, i < encV.size → w.cell? ⟨b, off + j * encV.size + i, none⟩ = (encV.enc xs[j])[i]?) (j : Nat) (hj : j < xs.length) :
  w.cell? ⟨b, off + j * 4, none⟩ = some (.string xs[j].1) ∧ w.cell? ⟨b, off + j * 4 + 1, none⟩ = some (.string xs[j].2.1) ∧ w.cell? ⟨b, off + j * 4 + 2, none⟩ = some (.bool xs[j].2.2.1) ∧ w.cell? ⟨b, off + j * 4 + 3, none⟩ = some (.int .i64 xs[j].2.2.2) := ⟨by simpa [encV] using hc j hj 0 (by decide), by simpa [encV] using hc j hj 1 (by decide), by simpa [encV] using hc j hj 2 (by decide), by simpa [encV] using hc j hj 3 (by decide)⟩
theorem sat {w : World} {b off : Nat} {xs : List ByteArray} (hc : ∀ j (hj : j < xs.length) i, i < encS.size → w.cell? ⟨b, off + j * encS.size + i, none⟩ = (encS.enc xs[j])[i]?) (j : Nat) (hj : j < xs.length) :
  w.cell? ⟨b, off + j, none⟩ = some (.string xs[j]) := by simpa [encS] using hc j hj 0 (by decide)
theorem iat {w : World} {b off : Nat} {xs : List Int} (hc : ∀ j (hj : j < xs.length) i, i < encI.size → w.cell? ⟨b, off + j * encI.size + i, none⟩ = (encI.enc xs[j])[i]?) (j : Nat) (hj : j < xs.length) :
  w.cell? ⟨b, off + j, none⟩ = some (.int .i64 xs[j]) := by simpa [encI] using hc j hj 0 (by decide)
end Go.Proofs.YtmijppfppigjcaaGreat

namespace Go.Proofs.YtmijppfppigjcaaGreat
open KM
def WFit (xs : List Wt) : Prop := ∀ x ∈ xs, x.1.size ≤ 1048576 ∧ x.2.1.size ≤ 1048576
def RFit (xs : List Rg) : Prop := ∀ x ∈ xs, x.1.size ≤ 1048576 ∧ x.2.size ≤ 1048576
end Go.Proofs.YtmijppfppigjcaaGreat

namespace Go.Proofs.YtmijppfppigjcaaGreat
open Go.RowKit
open KM

structure Tx where
 id : Int
 st : Int
 snap : Int
 cs : Int
 rs : List Rg
 ws : List Wt
 out : Bool
 nm : ByteArray
def txV (t : Tx) (ra : Option Addr) (rc : Nat) (wa : Option Addr) (wc : Nat) : List Value :=
 [.int .i64 t.id, .int .i64 t.st, .int .i64 t.snap, .int .i64 t.cs, .slice ra t.rs.length rc, .slice wa t.ws.length wc, .bool t.out, .string t.nm]
def TFit (t : Tx) : Prop := t.rs.length ≤ 1048576 ∧ RFit t.rs ∧ t.ws.length ≤ 1048576 ∧ WFit t.ws ∧ t.nm.size ≤ 1048576
structure TRow (w : World) (t : Tx) (ra wa : Option Addr) : Prop where
 r : GRow encR w ra t.rs
 w : GRow encW w wa t.ws
theorem TRow.below {w w' : World} {t : Tx} {ra wa : Option Addr} (h : TRow w t ra wa) (hb : Below w.heap.size w w') : TRow w' t ra wa := ⟨h.r.below hb, h.w.below hb⟩
end Go.Proofs.YtmijppfppigjcaaGreat

namespace Go.Proofs.YtmijppfppigjcaaGreat
open Go.RowKit
open KM
attribute [local go_sem ↓] Go.wp_at_zero Go.wp_at_succ

end Go.Proofs.YtmijppfppigjcaaGreat

namespace Go.Proofs.YtmijppfppigjcaaGreat
open Go.RowKit
open KM
attribute [local go_sem ↓] Go.wp_at_zero Go.wp_at_succ

set_option maxRecDepth 100000 in
set_option maxHeartbeats 1000000 in
theorem szw (f t : ByteArray) (g : Bool) (left : Int) (h0 : 0 ≤ left) (hl : left ≤ 1048576) (hf : f.size ≤ maxLen) (ht : t.size ≤ maxLen) (w : World) :
  Calls Tryz.prog 80 #[.agg #[.string f, .string t, .bool g], .int .i64 left] w fun e w' => ∃ r : Int, e = .returned (.int .i64 r) ∧ Room f t left r ∧ Below w.heap.size w w' := by
 unfold maxLen at hf ht
 have e1 : IntKind.i64.wrap (left - (f.size : Int)) = left - f.size := by rw [IntKind.wrap_i64]; omega
 by_cases h1 : left - (f.size : Int) < 0
 ·go_enter Tryz.func80, Tryz.ntmps80
  go_wp2
  go_ret
  exact ⟨_, rfl, Or.inl (by omega), (belowRefl w).alloc (Nat.le_refl _) _⟩
 have h1' : ¬ left - (f.size : Int) < 0 := h1
 have e2 : IntKind.i64.wrap (left - (f.size : Int) - (t.size : Int)) = left - f.size - t.size := by rw [IntKind.wrap_i64]; omega
 by_cases h2 : left - (f.size : Int) - (t.size : Int) < 0
 ·go_enter Tryz.func80, Tryz.ntmps80
  go_wp2
  go_ret
  exact ⟨_, rfl, Or.inl (by omega), (belowRefl w).alloc (Nat.le_refl _) _⟩
 ·have h2' : ¬ left - (f.size : Int) - (t.size : Int) < 0 := h2
  go_enter Tryz.func80, Tryz.ntmps80
  go_wp2
  go_ret
  exact ⟨_, rfl, Or.inr ⟨by omega, by omega, by omega⟩, (belowRefl w).alloc (Nat.le_refl _) _⟩

set_option maxHeartbeats 400000 in
theorem tow (f t : ByteArray) (g : Bool) (w : World) :
  Calls Tryz.prog 87 #[.agg #[.string f, .string t, .bool g]] w fun e w' => e = .returned (.agg #[.string f, .string t, .bool g]) ∧ Below w.heap.size w w' := by
 go_enter Tryz.func87, Tryz.ntmps87
 go_wp2
 exact bodyPost_ret (v := .agg #[.string f, .string t, .bool g]) (by simp [results, Tryz.results87, go_sem]) rfl ⟨rfl, (((belowRefl w).alloc (Nat.le_refl _) _).alloc (by simp) _).alloc (by simp; omega) _⟩

end Go.Proofs.YtmijppfppigjcaaGreat
