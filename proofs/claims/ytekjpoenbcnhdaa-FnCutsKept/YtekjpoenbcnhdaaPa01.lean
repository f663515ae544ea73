/- Rows of strings, of writes and of bytes that a call owns or reads. -/
import Derived.Test.YtekjpoenbcnhdaaProg
import Derived.WalkKit
import Derived.WalkSpells
import Derived.WalkLawsBesides
import Derived.Deep.AppendLies
namespace Go.Proofs.Ytekjpoenbcnhdaa
open Go.RowKit

theorem Try.info3 : (Try.prog.info? 3).map (fun i => (i.zero, i.size, i.bytes)) = some (some (.int .i64 0), 1, 8) := by kernel_rfl
theorem Try.info5 : (Try.prog.info? 5).map (fun i => (i.zero, i.size, i.bytes)) = some (some (.int .u8 0), 1, 1) := by kernel_rfl
theorem Try.info9 : (Try.prog.info? 9).map (fun i => (i.zero, i.size, i.bytes)) = some (some (.string ByteArray.empty), 1, 16) := by kernel_rfl
theorem Try.info69 : (Try.prog.info? 69).map (fun i => (i.zero, i.size, i.bytes)) = some (some (.agg #[.int .i64 0, .string ByteArray.empty]), 2, 24) := by kernel_rfl

abbrev Wr := Int × ByteArray
def pc (p : Wr) : List Value := [.int .i64 p.1, .string p.2]
def pcs (ps : List Wr) : List Value := ps.flatMap pc
def scs (ss : List ByteArray) : List Value := ss.map Value.string
def bv (l : List UInt8) : List Value := l.map fun b => Value.int .u8 (b.toNat : Int)

theorem bv_len (l : List UInt8) : (bv l).length = l.length := by simp [bv]
theorem scs_len (ss : List ByteArray) : (scs ss).length = ss.length := by simp [scs]
theorem pcs_app (a b : List Wr) : pcs (a ++ b) = pcs a ++ pcs b := by simp [pcs]
theorem scs_app (a b : List ByteArray) : scs (a ++ b) = scs a ++ scs b := by simp [scs]
theorem pcs_at : ∀ (ps : List Wr) (j : Nat) (h : j < ps.length), (pcs ps)[j * 2]? = some (.int .i64 ps[j].1) ∧ (pcs ps)[j * 2 + 1]? = some (.string ps[j].2)
  | p :: ps, 0, _ => by simp [pcs, pc]
  | p :: ps, j + 1, h => by
    have := pcs_at ps j (by simpa using h)
    have e : pcs (p :: ps) = [.int .i64 p.1, .string p.2] ++ pcs ps := rfl
    rw [e]
    constructor
    · rw [List.getElem?_append_right (by simp; omega)]
      simp only [List.length_cons, List.length_nil]
      rw [show (j + 1) * 2 - (0 + 1 + 1) = j * 2 by omega]
      exact this.1
    · rw [List.getElem?_append_right (by simp; omega)]
      simp only [List.length_cons, List.length_nil]
      rw [show (j + 1) * 2 + 1 - (0 + 1 + 1) = j * 2 + 1 by omega]
      exact this.2

def SOwn (w : World) (base : Nat) (v : Value) (ss : List ByteArray) : Prop := w.ownsRow base 9 1 v ss.length (scs ss)
def POwn (w : World) (base : Nat) (v : Value) (ps : List Wr) : Prop := w.ownsRow base 69 2 v ps.length (pcs ps)
def Own (w : World) (base : Nat) (v : Value) (l : List UInt8) : Prop := w.ownsRow base 5 1 v l.length (bv l)

def SRow (w : World) (a : Option Addr) (ss : List ByteArray) : Prop :=
  0 < ss.length → ∃ b off, a = some ⟨b, off, none⟩ ∧ b < w.heap.size ∧ ∀ j (hj : j < ss.length), w.cell? ⟨b, off + j, none⟩ = some (.string ss[j])
def PRow (w : World) (a : Option Addr) (ps : List Wr) : Prop :=
  0 < ps.length → ∃ b off, a = some ⟨b, off, none⟩ ∧ b < w.heap.size ∧ ∀ j (hj : j < ps.length), w.cell? ⟨b, off + j * 2, none⟩ = some (.int .i64 ps[j].1) ∧ w.cell? ⟨b, off + j * 2 + 1, none⟩ = some (.string ps[j].2)

theorem SRow.below {w w' : World} {a : Option Addr} {ss : List ByteArray} (h : SRow w a ss) (hb : Below w.heap.size w w') : SRow w' a ss := fun h0 => by
  obtain ⟨b, off, rfl, hlt, hc⟩ := h h0
  exact ⟨b, off, rfl, Nat.lt_of_lt_of_le hlt hb.size, fun j hj => (hb.cell (p := ⟨b, off + j, none⟩) hlt).trans (hc j hj)⟩
theorem PRow.below {w w' : World} {a : Option Addr} {ps : List Wr} (h : PRow w a ps) (hb : Below w.heap.size w w') : PRow w' a ps := fun h0 => by
  obtain ⟨b, off, rfl, hlt, hc⟩ := h h0
  exact ⟨b, off, rfl, Nat.lt_of_lt_of_le hlt hb.size, fun j hj => ⟨(hb.cell (p := ⟨b, off + j * 2, none⟩) hlt).trans (hc j hj).1, (hb.cell (p := ⟨b, off + j * 2 + 1, none⟩) hlt).trans (hc j hj).2⟩⟩
theorem SRow.nil (w : World) (a : Option Addr) : SRow w a [] := fun h => by simp at h
theorem PRow.nil (w : World) (a : Option Addr) : PRow w a [] := fun h => by simp at h

theorem ownsBelow {w w' : World} {base e size n : Nat} {v : Value} {xs : List Value} (h : w.ownsRow base e size v n xs) (hb : Below w.heap.size w w') : w'.ownsRow base e size v n xs := by
  obtain ⟨h1, h2⟩ := h
  refine ⟨h1, ?_⟩
  rcases h2 with h2 | ⟨g, cap, cur, hv, hg, hh, r⟩
  · exact Or.inl h2
  · refine Or.inr ⟨g, cap, cur, hv, hg, ?_, r⟩
    have hlt : g < w.heap.size := by
      by_cases hz : g < w.heap.size
      · exact hz
      · rw [Array.getElem?_eq_none (by omega)] at hh
        cases hh
    rw [hb.block g hlt]; exact hh
theorem SOwn.below {w w' : World} {base : Nat} {v : Value} {l : List ByteArray} (h : SOwn w base v l) (hb : Below w.heap.size w w') : SOwn w' base v l := ownsBelow h hb
theorem POwn.below {w w' : World} {base : Nat} {v : Value} {l : List Wr} (h : POwn w base v l) (hb : Below w.heap.size w w') : POwn w' base v l := ownsBelow h hb

theorem ownsMono {w : World} {base base' e size n : Nat} {v : Value} {xs : List Value} (h : w.ownsRow base e size v n xs) (hb : base' ≤ base) : w.ownsRow base' e size v n xs := by
  refine ⟨h.1, ?_⟩
  rcases h.2 with h1 | ⟨g, cap, cur, h1, h2, h3⟩
  · exact Or.inl h1
  · exact Or.inr ⟨g, cap, cur, h1, Nat.le_trans hb h2, h3⟩
theorem SOwn.mono {w : World} {base base' : Nat} {v : Value} {l : List ByteArray} (h : SOwn w base v l) (hb : base' ≤ base) : SOwn w base' v l := ownsMono h hb
theorem POwn.mono {w : World} {base base' : Nat} {v : Value} {l : List Wr} (h : POwn w base v l) (hb : base' ≤ base) : POwn w base' v l := ownsMono h hb
theorem SOwn.nil (w : World) (base : Nat) : SOwn w base (.slice none 0 0) [] := World.ownsRow_nil _ _ _ _
theorem POwn.nil (w : World) (base : Nat) : POwn w base (.slice none 0 0) [] := World.ownsRow_nil _ _ _ _
theorem SOwn.empty (w : World) (base : Nat) (hb : base ≤ w.heap.size) : SOwn (w.alloc (.cells #[] 9)) base (.slice (some ⟨w.heap.size, 0, none⟩) 0 0) [] :=
  World.ownsRow_lit (size := 1) w #[] 0 hb (by unfold maxLen; omega) rfl
theorem POwn.empty (w : World) (base : Nat) (hb : base ≤ w.heap.size) : POwn (w.alloc (.cells #[] 69)) base (.slice (some ⟨w.heap.size, 0, none⟩) 0 0) [] :=
  World.ownsRow_lit (size := 2) w #[] 0 hb (by unfold maxLen; omega) rfl
theorem SOwn.alloc {w : World} {base : Nat} {v : Value} {l : List ByteArray} (h : SOwn w base v l) (o : Obj) : SOwn (w.alloc o) base v l := World.ownsRow.alloc h o
theorem POwn.alloc {w : World} {base : Nat} {v : Value} {l : List Wr} (h : POwn w base v l) (o : Obj) : POwn (w.alloc o) base v l := World.ownsRow.alloc h o

theorem SOwn.row {w : World} {base : Nat} {v : Value} {l : List ByteArray} (h : SOwn w base v l) : ∃ ao cap, v = .slice ao l.length cap ∧ SRow w ao l := by
  have h0 := h
  rcases h.2 with ⟨rfl, h1⟩ | ⟨g, cap, cur, rfl, hg, hh, hnc, hcp, hcs, htake⟩
  · exact ⟨none, 0, by rw [h1], fun h => by omega⟩
  · refine ⟨_, cap, rfl, fun _ => ⟨g, 0, rfl, (World.ownsRow.lt h0 g rfl).2, fun j hj => ?_⟩⟩
    rw [Nat.zero_add, World.ownsRow.cellAt h0 j (by omega)]
    simp [scs, hj]
theorem POwn.row {w : World} {base : Nat} {v : Value} {l : List Wr} (h : POwn w base v l) : ∃ ao cap, v = .slice ao l.length cap ∧ PRow w ao l := by
  have h0 := h
  rcases h.2 with ⟨rfl, h1⟩ | ⟨g, cap, cur, rfl, hg, hh, hnc, hcp, hcs, htake⟩
  · exact ⟨none, 0, by rw [h1], fun h => by omega⟩
  · refine ⟨_, cap, rfl, fun _ => ⟨g, 0, rfl, (World.ownsRow.lt h0 g rfl).2, fun j hj => ?_⟩⟩
    rw [Nat.zero_add, World.ownsRow.cellAt h0 (j * 2) (by omega), World.ownsRow.cellAt h0 (j * 2 + 1) (by omega)]
    exact pcs_at l j hj

theorem belowRefl (w : World) : Below w.heap.size w w := Below.refl _ _

end Go.Proofs.Ytekjpoenbcnhdaa

namespace Go.Proofs.Ytekjpoenbcnhdaa
namespace DM
abbrev Wr := Int × ByteArray

def OkD (ss : List ByteArray) (ps : List Wr) : Prop :=
  1 ≤ ss.length ∧ ss.length ≤ 100 ∧ ps.length ≤ 60 ∧ (∀ s ∈ ss, s.size = 64) ∧ (∀ p ∈ ps, 0 ≤ p.1 ∧ p.1 < (ss.length : Int) ∧ p.2.size = 64)
instance (ss : List ByteArray) (ps : List Wr) : Decidable (OkD ss ps) := by unfold OkD; infer_instance
def okB (ss : List ByteArray) (ps : List Wr) : Bool := decide (OkD ss ps)
theorem okB_iff {ss : List ByteArray} {ps : List Wr} : okB ss ps = true ↔ OkD ss ps := by simp [okB]
theorem okB_no {ss : List ByteArray} {ps : List Wr} (h : ¬ OkD ss ps) : okB ss ps = false := by simp [okB, h]

def hasB (at' : Int) (n : Nat) : Bool := decide (0 ≤ at' ∧ at' < (n : Int))
theorem hasB_iff {a : Int} {n : Nat} : hasB a n = true ↔ 0 ≤ a ∧ a < (n : Int) := by simp [hasB]
theorem hasB_no {a : Int} {n : Nat} (h : ¬ (0 ≤ a ∧ a < (n : Int))) : hasB a n = false := by simp only [hasB, decide_eq_false_iff_not]; exact h

def back (ps : List Wr) (a : Int) : Nat → Option ByteArray
  | 0 => none
  | k + 1 => match ps[k]? with
    | some p => if p.1 = a then some p.2 else back ps a k
    | none => back ps a k
theorem back_hit {ps : List Wr} {a : Int} {k : Nat} (h : k < ps.length) (e : ps[k].1 = a) : back ps a (k + 1) = some ps[k].2 := by
  simp [back, h, e]
theorem back_miss {ps : List Wr} {a : Int} {k : Nat} (h : k < ps.length) (e : ps[k].1 ≠ a) : back ps a (k + 1) = back ps a k := by
  simp [back, h, e]
def rd (ss : List ByteArray) (ps : List Wr) (a : Int) : ByteArray := (back ps a ps.length).getD (ss.getD a.toNat ByteArray.empty)
theorem rd_hit {ss : List ByteArray} {ps : List Wr} {a : Int} {k : Nat} (hk : k < ps.length) (e : ps[k].1 = a) (h : back ps a ps.length = back ps a (k + 1)) : rd ss ps a = ps[k].2 := by
  rw [rd, h, back_hit hk e]; rfl
theorem rd_base {ss : List ByteArray} {ps : List Wr} {a : Int} (h : back ps a ps.length = back ps a 0) : rd ss ps a = ss.getD a.toNat ByteArray.empty := by
  rw [rd, h]; rfl

def flush : List ByteArray → List Wr → List ByteArray
  | ss, [] => ss
  | ss, p :: ps => flush (ss.set p.1.toNat p.2) ps
theorem flush_len : ∀ (ss : List ByteArray) (ps : List Wr), (flush ss ps).length = ss.length
  | _, [] => rfl
  | ss, p :: ps => by rw [flush, flush_len]; simp
theorem flush_app : ∀ (ss : List ByteArray) (ps qs : List Wr), flush ss (ps ++ qs) = flush (flush ss ps) qs
  | _, [], _ => rfl
  | ss, p :: ps, qs => by rw [List.cons_append, flush, flush, flush_app]
theorem flush_snoc (ss : List ByteArray) (ps : List Wr) (p : Wr) : flush ss (ps ++ [p]) = (flush ss ps).set p.1.toNat p.2 := by rw [flush_app]; rfl
end DM
end Go.Proofs.Ytekjpoenbcnhdaa
