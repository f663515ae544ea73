/- What laws.toStringS, toPut, toPutS, toDisk and szDisk do. -/
import Derived.Test.YtnfkecefkkdedaaA1
namespace Go.Proofs.Ytnfkecefkkdedaa
open Go.RowKit
open DM
attribute [local go_sem ↓] Go.wp_at_zero Go.wp_at_succ

/-- a disk of one's own -/
structure DOwn (w : World) (base : Nat) (a1 : Option Addr) (c1 : Nat) (a2 : Option Addr) (c2 : Nat) (ss : List ByteArray) (ps : List Wr) : Prop where
  s : SOwn w base (.slice a1 ss.length c1) ss
  p : POwn w base (.slice a2 ps.length c2) ps
theorem SOwn.srow {w : World} {base : Nat} {a : Option Addr} {c : Nat} {l : List ByteArray} (h : SOwn w base (.slice a l.length c) l) : SRow w a l := by
  obtain ⟨ao, cap, hv, hr⟩ := h.row
  cases hv
  exact hr
theorem POwn.prow {w : World} {base : Nat} {a : Option Addr} {c : Nat} {l : List Wr} (h : POwn w base (.slice a l.length c) l) : PRow w a l := by
  obtain ⟨ao, cap, hv, hr⟩ := h.row
  cases hv
  exact hr
theorem DOwn.below {w w' : World} {base : Nat} {a1 a2 : Option Addr} {c1 c2 : Nat} {ss : List ByteArray} {ps : List Wr} (h : DOwn w base a1 c1 a2 c2 ss ps) (hb : Below w.heap.size w w') : DOwn w' base a1 c1 a2 c2 ss ps := ⟨h.s.below hb, h.p.below hb⟩
theorem DOwn.mono {w : World} {base base' : Nat} {a1 a2 : Option Addr} {c1 c2 : Nat} {ss : List ByteArray} {ps : List Wr} (h : DOwn w base a1 c1 a2 c2 ss ps) (hb : base' ≤ base) : DOwn w base' a1 c1 a2 c2 ss ps := ⟨h.s.mono hb, h.p.mono hb⟩

theorem SOwn.set {w : World} {base : Nat} {v : Value} {l : List ByteArray} (h : SOwn w base v l) {a : Addr} (ha : a.block < base) (u : Value) : SOwn (w.setCell a u) base v l := ownsRow_setCell_below h ha u
theorem POwn.set {w : World} {base : Nat} {v : Value} {l : List Wr} (h : POwn w base v l) {a : Addr} (ha : a.block < base) (u : Value) : POwn (w.setCell a u) base v l := ownsRow_setCell_below h ha u

theorem mkRow (T e size bytes : Nat) (z : Value) (hT : Try.prog.underlying T = some (.slice e))
    (hinfo : (Try.prog.info? e).map (fun i => (i.zero, i.size, i.bytes)) = some (some z, size, bytes)) (n : Nat) (hn : n ≤ 100000000) (hby : bytes ≤ 64) (w : World) :
    (Instr.makeSlice T (.int .i64 (n : Int)) (.int .i64 (n : Int))).run Try.prog w = .ok (.slice (some ⟨w.heap.size, 0, none⟩) n n) (w.alloc (.cells (madeCells z.cells (n * size)) e)) := by
  obtain ⟨i0, hi, hz0, hz1, hz2⟩ := info_parts hinfo
  have hb : (bytes : Int) * (n : Int) ≤ 281474976710656 := by
    have h : bytes * n ≤ 64 * 100000000 := Nat.mul_le_mul hby hn
    have h2 : ((bytes * n : Nat) : Int) ≤ 281474976710656 := by omega
    rwa [Int.natCast_mul] at h2
  have h := run_make (P := Try.prog) w T e i0 z hT hi hz0 .i64 .i64 n n (by omega) (Int.le_refl _) (by rw [hz2]; exact hb) (by omega)
  rw [hz1] at h
  simpa using h

theorem sown_of {w : World} {base g n : Nat} {xs : List Value} {ss : List ByteArray} (hn : n = ss.length) (h : w.ownsRow base 9 1 (.slice (some ⟨g, 0, none⟩) n n) n xs) (hx : ∀ j, j < n → xs[j]? = (scs ss)[j]?) : SOwn w base (.slice (some ⟨g, 0, none⟩) ss.length n) ss := by
  have e : xs = scs ss := by
    apply List.ext_getElem?
    intro j
    by_cases hj : j < n
    · exact hx j hj
    · rw [List.getElem?_eq_none (by have := h.1; omega), List.getElem?_eq_none (by rw [scs_len]; omega)]
  subst hn
  rw [e] at h
  exact h

theorem pown_of {w : World} {base g n : Nat} {xs : List Value} {ps : List Wr} (hn : n = ps.length) (h : w.ownsRow base 70 2 (.slice (some ⟨g, 0, none⟩) n n) n xs) (hx : ∀ j, j < n * 2 → xs[j]? = (pcs ps)[j]?) : POwn w base (.slice (some ⟨g, 0, none⟩) ps.length n) ps := by
  have e : xs = pcs ps := by
    apply List.ext_getElem?
    intro j
    by_cases hj : j < n * 2
    · exact hx j hj
    · rw [List.getElem?_eq_none (by have := h.1; omega), List.getElem?_eq_none (by rw [pcs_len]; omega)]
  subst hn
  rw [e] at h
  exact h

/-! szDisk -/
/-- what is left of L behind a text -/
def lft (L : Int) (t : ByteArray) : Int := if L < (t.size : Int) then -1 else L - (t.size : Int)
theorem ret_int {a b : Int} (h : a = b) : Ending.returned (.int .i64 a) = .returned (.int .i64 b) := by rw [h]
/-- writes that are not too long -/
def PFits (ps : List Wr) : Prop := ∀ p ∈ ps, p.2.size ≤ 1048576

/-- not too great for the law -/
def Fits (ss : List ByteArray) (ps : List Wr) : Prop := ss.length ≤ 1048576 ∧ ps.length ≤ 1048576 ∧ (∀ s ∈ ss, s.size ≤ 1048576) ∧ PFits ps

end Go.Proofs.Ytnfkecefkkdedaa
