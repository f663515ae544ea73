/- Lists of which each one has a key: keys, and whether they ascend. -/
import Derived.Test.YtnneodofajhbcaaB1
import Derived.Test.YtnneodofajhbcaaP2a
import Derived.Deep.RegionHeld3
import Derived.Deep.Cut
import Derived.Deep.CutRange
import Derived.Laws.EntriesVeiled
namespace Go.Proofs.Ytnneodofajhbcaa
open Go.RowKit
open KM
attribute [local go_sem ↓] Go.wp_at_zero Go.wp_at_succ

theorem bx_low {w w' : World} {b base : Nat} {cs : List Value} (h : Bx w b cs) (hb : Below base w w') (hl : b < base) : Bx w' b cs :=
  ⟨Nat.lt_of_lt_of_le h.lt hb.size, fun j hj => (hb.cell (p := ⟨b, j, none⟩) hl).trans (h.at' j hj), fun j => (hb.frozen (p := ⟨b, j, none⟩) hl).trans (h.fz j)⟩
theorem oneS' {y : ByteArray} : ∀ u ∈ encS.enc y, u.oneCell' = true := by
  intro u hu
  simp only [encS, List.mem_cons, List.not_mem_nil, or_false] at hu
  rw [hu]; rfl
/-- ascending: the first k -/
def AscI (zs : List Int) (k : Nat) : Prop := ∀ j (h : j < zs.length), j < k → ∀ (_ : 0 < j), zs[j - 1]'(by omega) < zs[j]
def ascIB (zs : List Int) : Bool := decide (∀ j (h : j < zs.length), ∀ (_ : 0 < j), zs[j - 1]'(by omega) < zs[j])
def AscS (zs : List ByteArray) (k : Nat) : Prop := ∀ j (h : j < zs.length), j < k → ∀ (_ : 0 < j), Op.bytesLess (zs[j - 1]'(by omega)).toList zs[j].toList = true
def ascSB (zs : List ByteArray) : Bool := decide (∀ j (h : j < zs.length), ∀ (_ : 0 < j), Op.bytesLess (zs[j - 1]'(by omega)).toList zs[j].toList = true)
theorem ascI_all {zs : List Int} {k : Nat} (h : AscI zs k) (hk : zs.length ≤ k) : ascIB zs = true := decide_eq_true fun j hj h0 => h j hj (by omega) h0
theorem ascI_no {zs : List Int} (k : Nat) (hk : k < zs.length) (h0 : 0 < k) (h : ¬ zs[k - 1]'(by omega) < zs[k]) : ascIB zs = false := decide_eq_false fun g => h (g k hk h0)
theorem ascI_more {zs : List Int} {k : Nat} (h : AscI zs k) (hk : k < zs.length) (h2 : ∀ (_ : 0 < k), zs[k - 1]'(by omega) < zs[k]) : AscI zs (k + 1) := fun j hj hlt h0 => by
  by_cases e : j = k
  · subst e; exact h2 h0
  · exact h j hj (by omega) h0
theorem ascS_all {zs : List ByteArray} {k : Nat} (h : AscS zs k) (hk : zs.length ≤ k) : ascSB zs = true := decide_eq_true fun j hj h0 => h j hj (by omega) h0
theorem ascS_no {zs : List ByteArray} (k : Nat) (hk : k < zs.length) (h0 : 0 < k) (h : ¬ Op.bytesLess (zs[k - 1]'(by omega)).toList zs[k].toList = true) : ascSB zs = false := decide_eq_false fun g => h (g k hk h0)
theorem ascS_more {zs : List ByteArray} {k : Nat} (h : AscS zs k) (hk : k < zs.length) (h2 : ∀ (_ : 0 < k), Op.bytesLess (zs[k - 1]'(by omega)).toList zs[k].toList = true) : AscS zs (k + 1) := fun j hj hlt h0 => by
  by_cases e : j = k
  · subst e; exact h2 h0
  · exact h j hj (by omega) h0

end Go.Proofs.Ytnneodofajhbcaa
