/- One operation of a region taken first: a short form of the library's law. -/
import Derived.Deep.RegionHeld3
import Derived.Test.YtekjpoenbcnhdaaGreatProg
import Derived.WalkKit
import Derived.WalkSpells
import Derived.WalkLawsBesides
import Derived.Deep.AppendLies
import Derived.Deep.QuietTactic
import Derived.BigQuiet
import Derived.Deep.DrawnRows
import Derived.Shelf.Strings.Builder1
import Derived.Shelf.Strings.BuilderF
import Derived.Shelf.Strings.BuilderK
import Derived.Shelf.LaysM
import Derived.Shelf.Strconv.Clone
namespace Go.Proofs.YtekjpoenbcnhdaaGreat
theorem tk {P : Program} {ops : Array Oper} {Q : Exit → Act → World → Prop} {md : Region.Mode} {S : World → Prop} (i : Nat) {oi : Oper} (v : Value) {fuel : Nat} {listed : Array Bool} {a : Act} {w : World} (hi : ops[i]? = some oi) (hy : YieldsIf P ops S oi v a) (h : wpAnyH P md ops Q S fuel (listed.setIfInBounds i true) (a.put oi.dst v) w) (hb : (Region.noSelect ops && (Region.free md ops listed i && (Region.ready md ops listed).contains i)) = true := by kernel_rfl) (hQ : ∀ (c : List PanicEntry) (a : Act) (w : World), Q (Exit.panic c) (a.put oi.dst v) w → Q (Exit.panic c) a w := by exact fun _ _ _ h => h) (hS : S w := by assumption) : wpAnyH P md ops Q S (fuel + 1) listed a w := by
  rw [Bool.and_eq_true, Bool.and_eq_true] at hb
  exact wpAnyH_take hi hb.1 hb.2.1 hb.2.2 hQ hy hS h
theorem tA {α : Type _} {xs : List α} {i : Nat} (h : i < xs.toArray.size) : xs.toArray[i] = xs[i]'(by simpa using h) := List.getElem_toArray h
theorem tB {α : Type _} (a : α) (bs : List α) (h : 0 < (a :: bs).length) : (a :: bs)[0] = a := List.getElem_cons_zero a bs h
theorem tC {α : Type _} (a : α) (bs : List α) (i : Nat) (h : i + 1 < (a :: bs).length) : (a :: bs)[i + 1] = bs[i]'(by simpa using h) := List.getElem_cons_succ a bs i h
theorem tD {α : Type _} (l : List α) (i : Nat) (a : α) : l.toArray.setIfInBounds i a = (l.set i a).toArray := List.setIfInBounds_toArray l i a
theorem tE {α : Type _} {x : α} {xs : List α} {a : α} : (x :: xs).set 0 a = a :: xs := List.set_cons_zero
theorem tF {α : Type _} {x : α} {xs : List α} {i : Nat} {a : α} : (x :: xs).set (i + 1) a = x :: xs.set i a := List.set_cons_succ

end Go.Proofs.YtekjpoenbcnhdaaGreat

namespace Go.Proofs.YtekjpoenbcnhdaaGreat
open Go.RowKit

theorem Tryz.info3 : (Tryz.prog.info? 3).map (fun i => (i.zero, i.size, i.bytes)) = some (some (.int .i64 0), 1, 8) := by kernel_rfl
theorem Tryz.info5 : (Tryz.prog.info? 5).map (fun i => (i.zero, i.size, i.bytes)) = some (some (.int .u8 0), 1, 1) := by kernel_rfl
theorem Tryz.info9 : (Tryz.prog.info? 9).map (fun i => (i.zero, i.size, i.bytes)) = some (some (.string ByteArray.empty), 1, 16) := by kernel_rfl
theorem Tryz.info56 : (Tryz.prog.info? 56).map (fun i => (i.zero, i.size, i.bytes)) = some (some (.agg #[.int .i64 0, .string ByteArray.empty]), 2, 24) := by kernel_rfl

abbrev Wr := Int × ByteArray
def pc (p : Wr) : List Value := [.int .i64 p.1, .string p.2]
def pcs (ps : List Wr) : List Value := ps.flatMap pc
def scs (ss : List ByteArray) : List Value := ss.map Value.string
def bv (l : List UInt8) : List Value := l.map fun b => Value.int .u8 (b.toNat : Int)

theorem bv_len (l : List UInt8) : (bv l).length = l.length := by simp [bv]
theorem scs_len (ss : List ByteArray) : (scs ss).length = ss.length := by simp [scs]
theorem pcs_app (a b : List Wr) : pcs (a ++ b) = pcs a ++ pcs b := by simp [pcs]
theorem scs_app (a b : List ByteArray) : scs (a ++ b) = scs a ++ scs b := by simp [scs]
theorem pcs_at : ∀ (ps : List Wr) (j : Nat) (h : j < ps.length), (pcs ps)[j * 2]? = some (.int .i64 ps[j].1) ∧ (pcs ps)[j * 2 + 1]? = some (.string ps[j].2)
 | p :: ps, 0, _ => by simp [pcs, pc]
 | p :: ps, j + 1, h => by
  have := pcs_at ps j (by simpa using h)
  have e : pcs (p :: ps) = [.int .i64 p.1, .string p.2] ++ pcs ps := rfl
  rw [e]
  constructor
  ·rw [List.getElem?_append_right (by simp; omega)]
   simp only [List.length_cons, List.length_nil]
   rw [show (j + 1) * 2 - (0 + 1 + 1) = j * 2 by omega]
   exact this.1
  ·rw [List.getElem?_append_right (by simp; omega)]
   simp only [List.length_cons, List.length_nil]
   rw [show (j + 1) * 2 + 1 - (0 + 1 + 1) = j * 2 + 1 by omega]
   exact this.2

def SOwn (w : World) (base : Nat) (v : Value) (ss : List ByteArray) : Prop := w.ownsRow base 9 1 v ss.length (scs ss)
def POwn (w : World) (base : Nat) (v : Value) (ps : List Wr) : Prop := w.ownsRow base 56 2 v ps.length (pcs ps)
def Own (w : World) (base : Nat) (v : Value) (l : List UInt8) : Prop := w.ownsRow base 5 1 v l.length (bv l)

def SRow (w : World) (a : Option Addr) (ss : List ByteArray) : Prop :=
 0 < ss.length → ∃ b off, a = some ⟨b, off, none⟩ ∧ b < w.heap.size ∧ ∀ j (hj : j < ss.length), w.cell? ⟨b, off + j, none⟩ = some (.string ss[j])
def PRow (w : World) (a : Option Addr) (ps : List Wr) : Prop :=
 0 < ps.length → ∃ b off, a = some ⟨b, off, none⟩ ∧ b < w.heap.size ∧ ∀ j (hj : j < ps.length), w.cell? ⟨b, off + j * 2, none⟩ = some (.int .i64 ps[j].1) ∧ w.cell? ⟨b, off + j * 2 + 1, none⟩ = some (.string ps[j].2)

theorem SRow.below {w w' : World} {a : Option Addr} {ss : List ByteArray} (h : SRow w a ss) (hb : Below w.heap.size w w') : SRow w' a ss := fun h0 => by
 obtain ⟨b, off, rfl, hlt, hc⟩ := h h0
 exact ⟨b, off, rfl, Nat.lt_of_lt_of_le hlt hb.size, fun j hj => (hb.cell (p := ⟨b, off + j, none⟩) hlt).trans (hc j hj)⟩
theorem PRow.below {w w' : World} {a : Option Addr} {ps : List Wr} (h : PRow w a ps) (hb : Below w.heap.size w w') : PRow w' a ps := fun h0 => by
 obtain ⟨b, off, rfl, hlt, hc⟩ := h h0
 exact ⟨b, off, rfl, Nat.lt_of_lt_of_le hlt hb.size, fun j hj => ⟨(hb.cell (p := ⟨b, off + j * 2, none⟩) hlt).trans (hc j hj).1, (hb.cell (p := ⟨b, off + j * 2 + 1, none⟩) hlt).trans (hc j hj).2⟩⟩
theorem SRow.nil (w : World) (a : Option Addr) : SRow w a [] := fun h => by simp at h
theorem PRow.nil (w : World) (a : Option Addr) : PRow w a [] := fun h => by simp at h

theorem ownsBelow {w w' : World} {base e size n : Nat} {v : Value} {xs : List Value} (h : w.ownsRow base e size v n xs) (hb : Below w.heap.size w w') : w'.ownsRow base e size v n xs := by
 obtain ⟨h1, h2⟩ := h
 refine ⟨h1, ?_⟩
 rcases h2 with h2 | ⟨g, cap, cur, hv, hg, hh, r⟩
 ·exact Or.inl h2
 ·refine Or.inr ⟨g, cap, cur, hv, hg, ?_, r⟩
  have hlt : g < w.heap.size := by
   by_cases hz : g < w.heap.size
   ·exact hz
   ·rw [Array.getElem?_eq_none (by omega)] at hh
    cases hh
  rw [hb.block g hlt]; exact hh
theorem SOwn.below {w w' : World} {base : Nat} {v : Value} {l : List ByteArray} (h : SOwn w base v l) (hb : Below w.heap.size w w') : SOwn w' base v l := ownsBelow h hb
theorem POwn.below {w w' : World} {base : Nat} {v : Value} {l : List Wr} (h : POwn w base v l) (hb : Below w.heap.size w w') : POwn w' base v l := ownsBelow h hb

theorem ownsMono {w : World} {base base' e size n : Nat} {v : Value} {xs : List Value} (h : w.ownsRow base e size v n xs) (hb : base' ≤ base) : w.ownsRow base' e size v n xs := by
 refine ⟨h.1, ?_⟩
 rcases h.2 with h1 | ⟨g, cap, cur, h1, h2, h3⟩
 ·exact Or.inl h1
 ·exact Or.inr ⟨g, cap, cur, h1, Nat.le_trans hb h2, h3⟩
theorem SOwn.mono {w : World} {base base' : Nat} {v : Value} {l : List ByteArray} (h : SOwn w base v l) (hb : base' ≤ base) : SOwn w base' v l := ownsMono h hb
theorem POwn.mono {w : World} {base base' : Nat} {v : Value} {l : List Wr} (h : POwn w base v l) (hb : base' ≤ base) : POwn w base' v l := ownsMono h hb
theorem SOwn.nil (w : World) (base : Nat) : SOwn w base (.slice none 0 0) [] := World.ownsRow_nil _ _ _ _
theorem POwn.nil (w : World) (base : Nat) : POwn w base (.slice none 0 0) [] := World.ownsRow_nil _ _ _ _
theorem SOwn.empty (w : World) (base : Nat) (hb : base ≤ w.heap.size) : SOwn (w.alloc (.cells #[] 9)) base (.slice (some ⟨w.heap.size, 0, none⟩) 0 0) [] :=
 World.ownsRow_lit (size := 1) w #[] 0 hb (by unfold maxLen; omega) rfl
theorem POwn.empty (w : World) (base : Nat) (hb : base ≤ w.heap.size) : POwn (w.alloc (.cells #[] 56)) base (.slice (some ⟨w.heap.size, 0, none⟩) 0 0) [] :=
 World.ownsRow_lit (size := 2) w #[] 0 hb (by unfold maxLen; omega) rfl
theorem SOwn.alloc {w : World} {base : Nat} {v : Value} {l : List ByteArray} (h : SOwn w base v l) (o : Obj) : SOwn (w.alloc o) base v l := World.ownsRow.alloc h o
theorem POwn.alloc {w : World} {base : Nat} {v : Value} {l : List Wr} (h : POwn w base v l) (o : Obj) : POwn (w.alloc o) base v l := World.ownsRow.alloc h o

theorem SOwn.row {w : World} {base : Nat} {v : Value} {l : List ByteArray} (h : SOwn w base v l) : ∃ ao cap, v = .slice ao l.length cap ∧ SRow w ao l := by
 have h0 := h
 rcases h.2 with ⟨rfl, h1⟩ | ⟨g, cap, cur, rfl, hg, hh, hnc, hcp, hcs, htake⟩
 ·exact ⟨none, 0, by rw [h1], fun h => by omega⟩
 ·refine ⟨_, cap, rfl, fun _ => ⟨g, 0, rfl, (World.ownsRow.lt h0 g rfl).2, fun j hj => ?_⟩⟩
  rw [Nat.zero_add, World.ownsRow.cellAt h0 j (by omega)]
  simp [scs, hj]
theorem POwn.row {w : World} {base : Nat} {v : Value} {l : List Wr} (h : POwn w base v l) : ∃ ao cap, v = .slice ao l.length cap ∧ PRow w ao l := by
 have h0 := h
 rcases h.2 with ⟨rfl, h1⟩ | ⟨g, cap, cur, rfl, hg, hh, hnc, hcp, hcs, htake⟩
 ·exact ⟨none, 0, by rw [h1], fun h => by omega⟩
 ·refine ⟨_, cap, rfl, fun _ => ⟨g, 0, rfl, (World.ownsRow.lt h0 g rfl).2, fun j hj => ?_⟩⟩
  rw [Nat.zero_add, World.ownsRow.cellAt h0 (j * 2) (by omega), World.ownsRow.cellAt h0 (j * 2 + 1) (by omega)]
  exact pcs_at l j hj

theorem belowRefl (w : World) : Below w.heap.size w w := Below.refl _ _

theorem wpAppG {ops : Array Oper} {rest : List Oper} {o : Oper} {a : Act} {Q : Exit → Act → World → Prop} (T e size bytes : Nat) (z : Value) (hT : Tryz.prog.underlying T = some (.slice e))
  (hinfo : (Tryz.prog.info? e).map (fun i => (i.zero, i.size, i.bytes)) = some (some z, size, bytes)) (hzs : z.cells.size = size) (hsz : 0 < size) (hby : bytes ≤ 64)
  (hgd : o.guard = none) (s x : Operand) (ho : o.op = .call { callee := .builtin .append, args := #[s, x], argTypes := #[T, T] })
  {W : World} {base g n : Nat} {v : Value} {xs : List Value} (news : List Value)
  (hs : a.eval s = v) (hown : W.ownsRow base e size v n xs) (hx : a.eval x = .slice (some ⟨g, 0, none⟩) 1 1) (hblk : W.heap[g]? = some (.cells news.toArray e (0, 0)))
  (hl : news.length = size) (h1 : ∀ u ∈ news, u.oneCell' = true) (hlen : n ≤ 100000000) (hB : base ≤ W.heap.size)
  (h : ∀ g' cap w', w'.ownsRow base e size (.slice (some ⟨g', 0, none⟩) (n + 1) cap) (n + 1) (xs ++ news) → Below base W w' → wpList Tryz.prog ops Q rest (a.put o.dst (.slice (some ⟨g', 0, none⟩) (n + 1) cap)) w') :
  wpList Tryz.prog ops Q (o :: rest) a W := by
 obtain ⟨i0, hi, hz0, hz1, hz2⟩ := info_parts hinfo
 refine wpList_append_lies _ hgd s x T ho base e i0 z size bytes hT hi hz0 hz1 hz2 hzs hsz v n xs hs hown ⟨g, 0, none⟩ 1 1 news hx (by omega) ?_ h1 (by omega) (by unfold maxLen; omega) ?_ hB _ rfl ?_
 ·intro j u hj
  rw [Addr.add_lit, Nat.zero_add, World.cell?, hblk]
  simpa using hj
 ·calc (n + 1) * bytes ≤ 100000001 * 64 := Nat.mul_le_mul (by omega) hby
   _ ≤ _ := by omega
 ·intro g' cap w' h1 h2 _ _
  exact h g' cap w' h1 ((Below.refl _ _).grown h2 hB (fun j hj => (World.ownsRow.lt hown j hj).1))

end Go.Proofs.YtekjpoenbcnhdaaGreat

namespace Go.Proofs.YtekjpoenbcnhdaaGreat
namespace DM
abbrev Wr := Int × ByteArray

def OkD (ss : List ByteArray) (ps : List Wr) : Prop :=
 1 ≤ ss.length ∧ ss.length ≤ 100 ∧ ps.length ≤ 60 ∧ (∀ s ∈ ss, s.size = 64) ∧ (∀ p ∈ ps, 0 ≤ p.1 ∧ p.1 < (ss.length : Int) ∧ p.2.size = 64)
instance (ss : List ByteArray) (ps : List Wr) : Decidable (OkD ss ps) := by unfold OkD; infer_instance
def okB (ss : List ByteArray) (ps : List Wr) : Bool := decide (OkD ss ps)
theorem okB_iff {ss : List ByteArray} {ps : List Wr} : okB ss ps = true ↔ OkD ss ps := by simp [okB]
theorem okB_no {ss : List ByteArray} {ps : List Wr} (h : ¬ OkD ss ps) : okB ss ps = false := by simp [okB, h]

def hasB (at' : Int) (n : Nat) : Bool := decide (0 ≤ at' ∧ at' < (n : Int))
theorem hasB_iff {a : Int} {n : Nat} : hasB a n = true ↔ 0 ≤ a ∧ a < (n : Int) := by simp [hasB]
theorem hasB_no {a : Int} {n : Nat} (h : ¬ (0 ≤ a ∧ a < (n : Int))) : hasB a n = false := by simp only [hasB, decide_eq_false_iff_not]; exact h

def back (ps : List Wr) (a : Int) : Nat → Option ByteArray
 | 0 => none
 | k + 1 => match ps[k]? with
  | some p => if p.1 = a then some p.2 else back ps a k
  | none => back ps a k
theorem back_hit {ps : List Wr} {a : Int} {k : Nat} (h : k < ps.length) (e : ps[k].1 = a) : back ps a (k + 1) = some ps[k].2 := by
 simp [back, h, e]
theorem back_miss {ps : List Wr} {a : Int} {k : Nat} (h : k < ps.length) (e : ps[k].1 ≠ a) : back ps a (k + 1) = back ps a k := by
 simp [back, h, e]
def rd (ss : List ByteArray) (ps : List Wr) (a : Int) : ByteArray := (back ps a ps.length).getD (ss.getD a.toNat ByteArray.empty)
theorem rd_hit {ss : List ByteArray} {ps : List Wr} {a : Int} {k : Nat} (hk : k < ps.length) (e : ps[k].1 = a) (h : back ps a ps.length = back ps a (k + 1)) : rd ss ps a = ps[k].2 := by
 rw [rd, h, back_hit hk e]; rfl
theorem rd_base {ss : List ByteArray} {ps : List Wr} {a : Int} (h : back ps a ps.length = back ps a 0) : rd ss ps a = ss.getD a.toNat ByteArray.empty := by
 rw [rd, h]; rfl

def flush : List ByteArray → List Wr → List ByteArray
 | ss, [] => ss
 | ss, p :: ps => flush (ss.set p.1.toNat p.2) ps
theorem flush_len : ∀ (ss : List ByteArray) (ps : List Wr), (flush ss ps).length = ss.length
 | _, [] => rfl
 | ss, p :: ps => by rw [flush, flush_len]; simp
theorem flush_app : ∀ (ss : List ByteArray) (ps qs : List Wr), flush ss (ps ++ qs) = flush (flush ss ps) qs
 | _, [], _ => rfl
 | ss, p :: ps, qs => by rw [List.cons_append, flush, flush, flush_app]
theorem flush_snoc (ss : List ByteArray) (ps : List Wr) (p : Wr) : flush ss (ps ++ [p]) = (flush ss ps).set p.1.toNat p.2 := by rw [flush_app]; rfl
end DM
end Go.Proofs.YtekjpoenbcnhdaaGreat

namespace Go.Proofs.YtekjpoenbcnhdaaGreat
open Go.RowKit
open DM
attribute [local go_sem ↓] Go.wp_at_zero Go.wp_at_succ

theorem ret_bool {a b : Bool} (h : a = b) : Ending.returned (.bool a) = .returned (.bool b) := by rw [h]

theorem bcell {W w1 : World} (hb : Below W.heap.size W w1) : (∀ b o, b < W.heap.size → w1.cell? ⟨b, o, none⟩ = W.cell? ⟨b, o, none⟩) ∧ (∀ b o, b < W.heap.size → w1.frozen? ⟨b, o, none⟩ = W.frozen? ⟨b, o, none⟩) :=
 ⟨fun b o h => hb.cell (p := ⟨b, o, none⟩) h, fun b o h => hb.frozen (p := ⟨b, o, none⟩) h⟩

theorem below_drewN {B : Nat} {a w : World} (h : Below B a w) (n : Nat) : Below B a (w.drewN n) := h.trans ⟨rfl, rfl, rfl, Nat.le_refl _, fun _ _ => rfl⟩

set_option maxHeartbeats 400000 in
theorem has58 (at' : Int) (n c1 : Nat) (a1 : Option Addr) (v : Value) (b : Bool) (hb : hasB at' n = b) (w : World) :
  Calls Tryz.prog 94 #[.agg #[.slice a1 n c1, v], .int .i64 at'] w fun e w' => e = .returned (.bool b) ∧ Below w.heap.size w w' := by
 have HB : Hid (hasB at' n = b) := hb
 clear hb
 by_cases h0 : 0 ≤ at'
 ·by_cases h1 : at' < (n : Int)
  ·have HT : Hid (hasB at' n = true) := hasB_iff.2 ⟨h0, h1⟩
   go_enter Tryz.func94, Tryz.ntmps94
   go_wp2
   go_ret
   exact ⟨ret_bool (HT.out.symm.trans HB.out), (Below.refl _ _).alloc (Nat.le_refl _) _⟩
  ·have HT : Hid (hasB at' n = false) := hasB_no (fun h => h1 h.2)
   have h1' : decide (at' < (n : Int)) = false := by simpa using h1
   go_enter Tryz.func94, Tryz.ntmps94
   go_wp2
   go_ret
   exact ⟨ret_bool (HT.out.symm.trans HB.out), (Below.refl _ _).alloc (Nat.le_refl _) _⟩
 ·have HT : Hid (hasB at' n = false) := hasB_no (fun h => h0 h.1)
  have h0' : decide (0 ≤ at') = false := by simpa using h0
  go_enter Tryz.func94, Tryz.ntmps94
  go_wp2
  go_ret
  exact ⟨ret_bool (HT.out.symm.trans HB.out), (Below.refl _ _).alloc (Nat.le_refl _) _⟩

set_option maxHeartbeats 400000 in
theorem in57 (x lo hi : Int) (b : Bool) (hb : decide (lo ≤ x ∧ x ≤ hi) = b) (w : World) :
  Calls Tryz.prog 83 #[.int .i64 x, .int .i64 lo, .int .i64 hi] w fun e w' => e = .returned (.bool b) ∧ w' = w := by
 have HB : Hid (decide (lo ≤ x ∧ x ≤ hi) = b) := hb
 clear hb
 by_cases h0 : lo ≤ x
 ·by_cases h1 : x ≤ hi
  ·go_enter Tryz.func83, Tryz.ntmps83
   go_wp2
   go_ret
   exact ⟨ret_bool (by rw [← HB.out]; simp [h0, h1]), rfl⟩
  ·have h1' : decide (x ≤ hi) = false := by simpa using h1
   go_enter Tryz.func83, Tryz.ntmps83
   go_wp2
   go_ret
   exact ⟨ret_bool (by rw [← HB.out]; simp [h1]), rfl⟩
 ·have h0' : decide (lo ≤ x) = false := by simpa using h0
  go_enter Tryz.func83, Tryz.ntmps83
  go_wp2
  go_ret
  exact ⟨ret_bool (by rw [← HB.out]; simp; omega), rfl⟩

set_option maxRecDepth 100000 in
set_option maxHeartbeats 1000000 in
theorem iok22 (ss : List ByteArray) (ps : List Wr) (a1 a2 : Option Addr) (c1 c2 : Nat) (hn : ss.length ≤ 100000000) (hm : ps.length ≤ 100000000) (w : World) (hs : SRow w a1 ss) (hp : PRow w a2 ps) :
  Calls Tryz.prog 72 #[.agg #[.slice a1 ss.length c1, .slice a2 ps.length c2]] w fun e w' => e = .returned (.bool (okB ss ps)) ∧ Below w.heap.size w w' := by
 have HS : Hid (SRow w a1 ss) := hs
 have HP : Hid (PRow w a2 ps) := hp
 clear hs hp
 by_cases h1 : 1 ≤ ss.length
 ·by_cases h2 : ss.length ≤ 100
  ·by_cases h3 : ps.length ≤ 60
   ·have e1 : decide ((ss.length : Int) < 1) = false := by simp; omega
    have e2 : decide ((100 : Int) < (ss.length : Int)) = false := by simp; omega
    have e3 : decide ((60 : Int) < (ps.length : Int)) = false := by simp; omega
    go_enter Tryz.func72, Tryz.ntmps72
    go_wp2
    go_loop [26] (fun t => ∃ k : Nat, k ≤ ss.length ∧ t = .int .i64 k ∧ Hid (∀ j (hj : j < ss.length), j < k → ss[j].size = 64)) (fun t => ss.length - (intOf t).toNat)
    case atStart => exact ⟨0, Nat.zero_le _, rfl, fun j hj h => by omega⟩
    case round =>
     obtain ⟨k, hk, rfl, HA⟩ := hrel
     by_cases hlt : k < ss.length
     ·have hlt' : (k : Int) < (ss.length : Int) := by omega
      have h0 : (0 : Int) ≤ (k : Int) := by omega
      obtain ⟨b, off, rfl, hbl, hc⟩ := (HS.out.below ((belowRefl w).alloc (Nat.le_refl _) (.cells #[.slice a1 ss.length c1, .slice a2 ps.length c2] 27))) (by omega)
      have hck := hc k hlt
      clear hc
      by_cases h64 : ss[k].size = 64
      ·have h64' : ((ss[k].size : Int) != 64) = false := by rw [bne_eq_false_iff_eq]; omega
       have HA2 : Hid (∀ j (hj : j < ss.length), j < k + 1 → ss[j].size = 64) := fun j hj h => by
        by_cases e : j = k
        ·subst e; exact h64
        ·exact HA.out j hj (by omega)
       clear h64
       go_wp2
       go_round
       case rel => exact ⟨k + 1, by omega, by go_num, HA2⟩
       case measure => simp [intOf]; omega
      ·have h64' : ((ss[k].size : Int) != 64) = true := by rw [bne_iff_ne]; omega
       have HN : Hid (okB ss ps = false) := okB_no (fun h => h64 (h.2.2.2.1 _ (List.getElem_mem hlt)))
       clear h64
       go_wp2
       go_ret
       exact ⟨ret_bool HN.out.symm, (belowRefl w).alloc (Nat.le_refl _) _⟩
     ·have hlt' : ¬ (k : Int) < (ss.length : Int) := by omega
      have HA2 : Hid (∀ s ∈ ss, s.size = 64) := fun s hs => by
       obtain ⟨j, hj, rfl⟩ := List.getElem_of_mem hs
       exact HA.out j hj (by omega)
      go_wp2
      go_loopw [37] (fun t wr => ∃ k : Nat, k ≤ ps.length ∧ t = .int .i64 k ∧ Hid (∀ j (hj : j < ps.length), j < k → 0 ≤ ps[j].1 ∧ ps[j].1 < (ss.length : Int) ∧ ps[j].2.size = 64) ∧ Hid (Below (w.heap.size + 1) (w.alloc (.cells #[.slice a1 ss.length c1, .slice a2 ps.length c2] 27)) wr)) (fun t _ => ps.length - (intOf t).toNat)
      case atStart => exact ⟨0, Nat.zero_le _, rfl, fun j hj h => by omega, Below.refl _ _⟩
      case round =>
       obtain ⟨k2, hk2, rfl, HQ, HB⟩ := hrel
       have hbw : Below w.heap.size w wr := ((belowRefl w).alloc (Nat.le_refl _) (.cells #[.slice a1 ss.length c1, .slice a2 ps.length c2] 27)).trans (HB.out.mono (by omega))
       have HBW : Hid (Below w.heap.size w wr) := hbw
       have hsz : w.heap.size < wr.heap.size := by have := HB.out.size; simp at this; omega
       clear hbw
       by_cases hlt2 : k2 < ps.length
       ·have hlt2' : (k2 : Int) < (ps.length : Int) := by omega
        have h02 : (0 : Int) ≤ (k2 : Int) := by omega
        obtain ⟨b, off, rfl, hbl, hc⟩ := (HP.out.below HBW.out) (by omega)
        have hck := (hc k2 hlt2).1
        have hcl := (hc k2 hlt2).2
        clear hc
        have g0 : wr.cell? ⟨w.heap.size, 0, none⟩ = some (.slice a1 ss.length c1) := (HB.out.cell (p := ⟨w.heap.size, 0, none⟩) (by simp)).trans (by simp [go_sem])
        have g1 : wr.cell? ⟨w.heap.size, 1, none⟩ = some (.slice (some ⟨b, off, none⟩) ps.length c2) := (HB.out.cell (p := ⟨w.heap.size, 1, none⟩) (by simp)).trans (by simp [go_sem])
        by_cases hin : 0 ≤ ps[k2].1 ∧ ps[k2].1 < (ss.length : Int)
        ·have HIN : Hid (hasB ps[k2].1 ss.length = true) := hasB_iff.2 hin
         by_cases h64 : ps[k2].2.size = 64
         ·have h64' : ((ps[k2].2.size : Int) != 64) = false := by rw [bne_eq_false_iff_eq]; omega
          have HQ2 : Hid (∀ j (hj : j < ps.length), j < k2 + 1 → 0 ≤ ps[j].1 ∧ ps[j].1 < (ss.length : Int) ∧ ps[j].2.size = 64) := fun j hj h => by
           by_cases e : j = k2
           ·subst e; exact ⟨hin.1, hin.2, h64⟩
           ·exact HQ.out j hj (by omega)
          clear h64 hin
          go_wp2_with (go_at_call 94; refine (has58 _ _ _ _ _ true HIN.out _).mono ?_; rintro e w2 ⟨rfl, hb2⟩; obtain ⟨hc2, hf2⟩ := bcell hb2)
          go_roundw
          case rel => exact ⟨k2 + 1, by omega, by go_num, HQ2, (HB.out.alloc (by omega) _).trans (hb2.mono (by simp; omega))⟩
          case measure => simp [intOf]; omega
         ·have h64' : ((ps[k2].2.size : Int) != 64) = true := by rw [bne_iff_ne]; omega
          have HN : Hid (okB ss ps = false) := okB_no (fun h => h64 (h.2.2.2.2 _ (List.getElem_mem hlt2)).2.2)
          clear h64 hin
          go_wp2_with (go_at_call 94; refine (has58 _ _ _ _ _ true HIN.out _).mono ?_; rintro e w2 ⟨rfl, hb2⟩; obtain ⟨hc2, hf2⟩ := bcell hb2)
          go_ret
          exact ⟨ret_bool HN.out.symm, (HBW.out.alloc HBW.out.size _).trans (hb2.mono (by simp; omega))⟩
        ·have HIN : Hid (hasB ps[k2].1 ss.length = false) := hasB_no hin
         have HN : Hid (okB ss ps = false) := okB_no (fun h => hin ⟨(h.2.2.2.2 _ (List.getElem_mem hlt2)).1, (h.2.2.2.2 _ (List.getElem_mem hlt2)).2.1⟩)
         clear hin
         go_wp2_with (go_at_call 94; refine (has58 _ _ _ _ _ false HIN.out _).mono ?_; rintro e w2 ⟨rfl, hb2⟩; obtain ⟨hc2, hf2⟩ := bcell hb2)
         go_ret
         exact ⟨ret_bool HN.out.symm, (HBW.out.alloc HBW.out.size _).trans (hb2.mono (by simp; omega))⟩
       ·have hlt2' : ¬ (k2 : Int) < (ps.length : Int) := by omega
        have HY : Hid (okB ss ps = true) := okB_iff.2 ⟨h1, h2, h3, HA2.out, fun p hp => by
         obtain ⟨j, hj, rfl⟩ := List.getElem_of_mem hp
         exact HQ.out j hj (by omega)⟩
        go_wp2
        go_ret
        exact ⟨ret_bool HY.out.symm, HBW.out⟩
   ·have e1 : decide ((ss.length : Int) < 1) = false := by simp; omega
    have e2 : decide ((100 : Int) < (ss.length : Int)) = false := by simp; omega
    have e3 : decide ((60 : Int) < (ps.length : Int)) = true := by simp; omega
    have HN : Hid (okB ss ps = false) := okB_no (fun h => h3 h.2.2.1)
    go_enter Tryz.func72, Tryz.ntmps72
    go_wp2
    go_ret
    exact ⟨ret_bool HN.out.symm, (belowRefl w).alloc (Nat.le_refl _) _⟩
  ·have e1 : decide ((ss.length : Int) < 1) = false := by simp; omega
   have e2 : decide ((100 : Int) < (ss.length : Int)) = true := by simp; omega
   have HN : Hid (okB ss ps = false) := okB_no (fun h => h2 h.2.1)
   go_enter Tryz.func72, Tryz.ntmps72
   go_wp2
   go_ret
   exact ⟨ret_bool HN.out.symm, (belowRefl w).alloc (Nat.le_refl _) _⟩
 ·have e1 : decide ((ss.length : Int) < 1) = true := by simp; omega
  have HN : Hid (okB ss ps = false) := okB_no (fun h => h1 h.1)
  go_enter Tryz.func72, Tryz.ntmps72
  go_wp2
  go_ret
  exact ⟨ret_bool HN.out.symm, (belowRefl w).alloc (Nat.le_refl _) _⟩

set_option maxRecDepth 100000 in
set_option maxHeartbeats 1000000 in
theorem sok37 (ss : List ByteArray) (ps : List Wr) (a1 a2 : Option Addr) (c1 c2 : Nat) (hn : ss.length ≤ 100000000) (hm : ps.length ≤ 100000000) (w : World) (hs : SRow w a1 ss) (hp : PRow w a2 ps) :
  Calls Tryz.prog 82 #[.agg #[.slice a1 ss.length c1, .slice a2 ps.length c2]] w fun e w' => e = .returned (.bool (okB ss ps)) ∧ Below w.heap.size w w' := by
 have HS : Hid (SRow w a1 ss) := hs
 have HP : Hid (PRow w a2 ps) := hp
 clear hs hp
 by_cases h12 : 1 ≤ ss.length ∧ ss.length ≤ 100
 ·have HI : Hid (decide ((1 : Int) ≤ (ss.length : Int) ∧ (ss.length : Int) ≤ 100) = true) := by show _ = _; simp; omega
  by_cases h3 : ps.length ≤ 60
  ·have e3 : decide ((60 : Int) < (ps.length : Int)) = false := by simp; omega
   go_enter Tryz.func82, Tryz.ntmps82
   go_wp2_with (go_at_call 83; refine (in57 _ _ _ true HI.out _).mono ?_; rintro e w2 ⟨rfl, rfl⟩)
   go_loop [3] (fun t => ∃ k : Nat, k ≤ ss.length ∧ t = .int .i64 k ∧ Hid (∀ j (hj : j < ss.length), j < k → ss[j].size = 64)) (fun t => ss.length - (intOf t).toNat)
   case atStart => exact ⟨0, Nat.zero_le _, rfl, fun j hj h => by omega⟩
   case round =>
    obtain ⟨k, hk, rfl, HA⟩ := hrel
    by_cases hlt : k < ss.length
    ·have hlt' : (k : Int) < (ss.length : Int) := by omega
     have h0 : (0 : Int) ≤ (k : Int) := by omega
     obtain ⟨b, off, rfl, hbl, hc⟩ := (HS.out.below ((belowRefl w).alloc (Nat.le_refl _) (.cells #[.slice a1 ss.length c1, .slice a2 ps.length c2] 27))) (by omega)
     have hck := hc k hlt
     clear hc
     by_cases h64 : ss[k].size = 64
     ·have h64' : ((ss[k].size : Int) != 64) = false := by rw [bne_eq_false_iff_eq]; omega
      have HA2 : Hid (∀ j (hj : j < ss.length), j < k + 1 → ss[j].size = 64) := fun j hj h => by
       by_cases e : j = k
       ·subst e; exact h64
       ·exact HA.out j hj (by omega)
      clear h64
      go_wp2
      go_round
      case rel => exact ⟨k + 1, by omega, by go_num, HA2⟩
      case measure => simp [intOf]; omega
     ·have h64' : ((ss[k].size : Int) != 64) = true := by rw [bne_iff_ne]; omega
      have HN : Hid (okB ss ps = false) := okB_no (fun h => h64 (h.2.2.2.1 _ (List.getElem_mem hlt)))
      clear h64
      go_wp2
      go_ret
      exact ⟨ret_bool HN.out.symm, (belowRefl w).alloc (Nat.le_refl _) _⟩
    ·have hlt' : ¬ (k : Int) < (ss.length : Int) := by omega
     have HA2 : Hid (∀ s ∈ ss, s.size = 64) := fun s hs => by
      obtain ⟨j, hj, rfl⟩ := List.getElem_of_mem hs
      exact HA.out j hj (by omega)
     go_wp2
     go_loopw [4] (fun t wr => ∃ k : Nat, k ≤ ps.length ∧ t = .int .i64 k ∧ Hid (∀ j (hj : j < ps.length), j < k → 0 ≤ ps[j].1 ∧ ps[j].1 < (ss.length : Int) ∧ ps[j].2.size = 64) ∧ Hid (Below (w.heap.size + 1) (w.alloc (.cells #[.slice a1 ss.length c1, .slice a2 ps.length c2] 27)) wr)) (fun t _ => ps.length - (intOf t).toNat)
     case atStart => exact ⟨0, Nat.zero_le _, rfl, fun j hj h => by omega, Below.refl _ _⟩
     case round =>
      obtain ⟨k2, hk2, rfl, HQ, HB⟩ := hrel
      have hbw : Below w.heap.size w wr := ((belowRefl w).alloc (Nat.le_refl _) (.cells #[.slice a1 ss.length c1, .slice a2 ps.length c2] 27)).trans (HB.out.mono (by omega))
      have HBW : Hid (Below w.heap.size w wr) := hbw
      have hsz : w.heap.size < wr.heap.size := by have := HB.out.size; simp at this; omega
      have HG0 : Hid (wr.cell? ⟨w.heap.size, 0, none⟩ = some (.slice a1 ss.length c1)) := (HB.out.cell (p := ⟨w.heap.size, 0, none⟩) (by simp)).trans (by simp [go_sem])
      have HG1 : Hid (wr.cell? ⟨w.heap.size, 1, none⟩ = some (.slice a2 ps.length c2)) := (HB.out.cell (p := ⟨w.heap.size, 1, none⟩) (by simp)).trans (by simp [go_sem])
      have g0 := HG0.out
      have g1 := HG1.out
      clear hbw
      by_cases hlt2 : k2 < ps.length
      ·have hlt2' : (k2 : Int) < (ps.length : Int) := by omega
       have h02 : (0 : Int) ≤ (k2 : Int) := by omega
       obtain ⟨b, off, rfl, hbl, hc⟩ := (HP.out.below HBW.out) (by omega)
       have hck := (hc k2 hlt2).1
       have hcl := (hc k2 hlt2).2
       clear hc
       have e9 : IntKind.i64.wrap ((ss.length : Int) - 1) = (ss.length : Int) - 1 := by rw [IntKind.wrap_i64]; omega
       by_cases hin : 0 ≤ ps[k2].1 ∧ ps[k2].1 < (ss.length : Int)
       ·have HIN : Hid (decide ((0 : Int) ≤ ps[k2].1 ∧ ps[k2].1 ≤ (ss.length : Int) - 1) = true) := by show _ = _; simp; omega
        by_cases h64 : ps[k2].2.size = 64
        ·have h64' : ((ps[k2].2.size : Int) != 64) = false := by rw [bne_eq_false_iff_eq]; omega
         have HQ2 : Hid (∀ j (hj : j < ps.length), j < k2 + 1 → 0 ≤ ps[j].1 ∧ ps[j].1 < (ss.length : Int) ∧ ps[j].2.size = 64) := fun j hj h => by
          by_cases e : j = k2
          ·subst e; exact ⟨hin.1, hin.2, h64⟩
          ·exact HQ.out j hj (by omega)
         clear h64 hin
         go_wp2
         go_quiet ((go_at_call 83; exact Calls.quiet_of_same (in57 _ _ _ true HIN.out _)))
         go_wp2
         go_roundw
         case rel => exact ⟨k2 + 1, by omega, by go_num, HQ2, below_drewN HB.out _⟩
         case measure => simp [intOf]; omega
        ·have h64' : ((ps[k2].2.size : Int) != 64) = true := by rw [bne_iff_ne]; omega
         have HN : Hid (okB ss ps = false) := okB_no (fun h => h64 (h.2.2.2.2 _ (List.getElem_mem hlt2)).2.2)
         clear h64 hin
         go_wp2
         go_quiet ((go_at_call 83; exact Calls.quiet_of_same (in57 _ _ _ true HIN.out _)))
         go_wp2
         go_ret
         exact ⟨ret_bool HN.out.symm, below_drewN HBW.out _⟩
       ·have HIN : Hid (decide ((0 : Int) ≤ ps[k2].1 ∧ ps[k2].1 ≤ (ss.length : Int) - 1) = false) := by show _ = _; simp; omega
        have HN : Hid (okB ss ps = false) := okB_no (fun h => hin ⟨(h.2.2.2.2 _ (List.getElem_mem hlt2)).1, (h.2.2.2.2 _ (List.getElem_mem hlt2)).2.1⟩)
        clear hin
        go_wp2
        go_quiet ((go_at_call 83; exact Calls.quiet_of_same (in57 _ _ _ false HIN.out _)))
        go_wp2
        go_ret
        exact ⟨ret_bool HN.out.symm, below_drewN HBW.out _⟩
      ·have hlt2' : ¬ (k2 : Int) < (ps.length : Int) := by omega
       have HY : Hid (okB ss ps = true) := okB_iff.2 ⟨h12.1, h12.2, h3, HA2.out, fun p hp => by
        obtain ⟨j, hj, rfl⟩ := List.getElem_of_mem hp
        exact HQ.out j hj (by omega)⟩
       go_wp2
       go_ret
       exact ⟨ret_bool HY.out.symm, HBW.out⟩
  ·have e3 : decide ((60 : Int) < (ps.length : Int)) = true := by simp; omega
   have HN : Hid (okB ss ps = false) := okB_no (fun h => h3 h.2.2.1)
   go_enter Tryz.func82, Tryz.ntmps82
   go_wp2_with (go_at_call 83; refine (in57 _ _ _ true HI.out _).mono ?_; rintro e w2 ⟨rfl, rfl⟩)
   go_ret
   exact ⟨ret_bool HN.out.symm, (belowRefl w).alloc (Nat.le_refl _) _⟩
 ·have HI : Hid (decide ((1 : Int) ≤ (ss.length : Int) ∧ (ss.length : Int) ≤ 100) = false) := by show _ = _; simp; omega
  have HN : Hid (okB ss ps = false) := okB_no (fun h => h12 ⟨h.1, h.2.1⟩)
  go_enter Tryz.func82, Tryz.ntmps82
  go_wp2_with (go_at_call 83; refine (in57 _ _ _ false HI.out _).mono ?_; rintro e w2 ⟨rfl, rfl⟩)
  go_ret
  exact ⟨ret_bool HN.out.symm, (belowRefl w).alloc (Nat.le_refl _) _⟩
end Go.Proofs.YtekjpoenbcnhdaaGreat

namespace Go.Proofs
open Go.Shelf
def Tryz.lays169_ren : Go.Shelf.Ren := ⟨fun | 169 => 103 | n => n, fun | 70 => 111 | 9 => 9 | 0 => 0 | 72 => 113 | 37 => 22 | 127 => 120 | 3 => 3 | 5 => 5 | n => n, fun | n => n⟩
theorem Tryz.lays169 : Go.Proofs.Lays.n169 Tryz.prog Tryz.lays169_ren := {
 mixed := by kernel_rfl
 f169 := Tryz.func103.trans (congrArg some (by kernel_rfl))
 t0 := Tryz.underlying0
 a0 := Tryz.isAgg0
 z0 := Tryz.sizeOf0
 v0 := Tryz.zeroValue0
 t3 := Tryz.underlying3
 a3 := Tryz.isAgg3
 z3 := Tryz.sizeOf3
 v3 := Tryz.zeroValue3
 t9 := Tryz.underlying9
 a9 := Tryz.isAgg9
 z9 := Tryz.sizeOf9
 v9 := Tryz.zeroValue9
 t37 := Tryz.underlying22
 a37 := Tryz.isAgg22
 z37 := Tryz.sizeOf22
 v37 := Tryz.zeroValue22
 t70 := Tryz.underlying111
 a70 := Tryz.isAgg111
 z70 := Tryz.sizeOf111
 v70 := Tryz.zeroValue111
 t72 := Tryz.underlying113
 a72 := Tryz.isAgg113
 z72 := Tryz.sizeOf113
 v72 := Tryz.zeroValue113
 t127 := Tryz.underlying120
 a127 := Tryz.isAgg120
 z127 := Tryz.sizeOf120
 v127 := Tryz.zeroValue120 }
theorem Tryz.Builder_Extra_169 : Builder.Extra Tryz.prog Tryz.lays169_ren := {
 sizeBuilder := by kernel_rfl
 liesBuilder := by kernel_rfl
 t5 := Tryz.underlying5
 a5 := Tryz.isAgg5
 z5 := Tryz.sizeOf5
 v5 := Tryz.zeroValue5
 infoByte := by kernel_rfl
 cellsByte := by kernel_rfl
 sizeByte := by kernel_rfl
 neB5 := by decide }
open Go.RowKit in
open Go.RowKit in
open Go.RowKit in
theorem Tryz.Builder_String_any (B b : Nat) (l : List UInt8) (w : World) (h : Lib.IsBuilder 113 5 B b (Lib.byteCells l) w) (hBw : B ≤ w.heap.size) :
  Calls Tryz.prog 103 #[.pointer (some ⟨b, 0, none⟩)] w fun e w' => e = .returned (.string ⟨l.toArray⟩) ∧ Below B w w' := Any.Builder_String_any Tryz.lays169 Tryz.Builder_Extra_169 B b l w h hBw
open Go.RowKit in
open Go.RowKit in
open Go.RowKit in
open Go.RowKit in
open Go.RowKit in
open Go.RowKit in
def Tryz.laysM316_ren : Go.Shelf.Ren := ⟨fun | 316 => 105 | n => n, fun | 9 => 9 | 3 => 3 | 4 => 4 | 37 => 22 | 0 => 0 | 127 => 120 | 5 => 5 | n => n, fun | n => n⟩
theorem Tryz.laysM316 : Go.Proofs.LaysM.n316 Tryz.prog Tryz.laysM316_ren := {
 mixed := by kernel_rfl
 f316 := Tryz.func105.trans (congrArg some (by kernel_rfl))
 t0 := Tryz.underlying0
 a0 := Tryz.isAgg0
 z0 := Tryz.sizeOf0
 v0 := Tryz.zeroValue0
 t3 := Tryz.underlying3
 a3 := Tryz.isAgg3
 z3 := Tryz.sizeOf3
 v3 := Tryz.zeroValue3
 t4 := Tryz.underlying4
 a4 := Tryz.isAgg4
 z4 := Tryz.sizeOf4
 v4 := Tryz.zeroValue4
 t9 := Tryz.underlying9
 a9 := Tryz.isAgg9
 z9 := Tryz.sizeOf9
 v9 := Tryz.zeroValue9
 t37 := Tryz.underlying22
 a37 := Tryz.isAgg22
 z37 := Tryz.sizeOf22
 v37 := Tryz.zeroValue22
 t127 := Tryz.underlying120
 a127 := Tryz.isAgg120
 z127 := Tryz.sizeOf120
 v127 := Tryz.zeroValue120
 t5 := Tryz.underlying5
 a5 := Tryz.isAgg5
 z5 := Tryz.sizeOf5
 v5 := Tryz.zeroValue5
 i0 := by kernel_rfl
 i3 := by kernel_rfl
 i4 := by kernel_rfl
 i5 := by kernel_rfl
 i9 := by kernel_rfl
 i37 := by kernel_rfl
 i127 := by kernel_rfl }
open Go.RowKit in
theorem Tryz.stringslite_Clone (s : ByteArray) (w : World) (hlim : s.size ≤ 281474976710656) :
  Calls Tryz.prog 105 #[.string s] w fun e w' => e = .returned (.string s) ∧ Below w.heap.size w w' := Any.stringslite_Clone Tryz.laysM316 s w hlim
end Go.Proofs
