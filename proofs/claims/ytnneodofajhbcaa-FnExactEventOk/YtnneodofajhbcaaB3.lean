/- What stays: what laws toBase does. -/
import Derived.Test.YtnneodofajhbcaaB1
import Derived.Test.YtnneodofajhbcaaZ1
import Derived.Deep.RegionHeld3
import Derived.Deep.Cut
import Derived.Deep.CutRange
namespace Go.Proofs.Ytnneodofajhbcaa
open Go.RowKit
open KM
attribute [local go_sem ↓] Go.wp_at_zero Go.wp_at_succ

/-- a base in memory of its own -/
structure BLie (w : World) (lo hi : Nat) (c : Bb) : Prop where
  ex : ∃ m1 m2, lo ≤ m1 ∧ m1 ≤ m2 ∧ m2 ≤ hi ∧ Lies encV 104 w lo m1 (.slice c.va c.vs.length c.vc) c.vs ∧ LLie w m1 m2 (.slice c.pa c.ps.length c.pc) c.ps ∧ LLie w m2 hi (.slice c.qa c.qs.length c.qc) c.qs
theorem BLie.rows {w : World} {lo hi : Nat} {c : Bb} (h : BLie w lo hi c) : BRows w c := by
  obtain ⟨m1, m2, _, _, _, h1, h2, h3⟩ := h.ex
  exact ⟨h1.own.grow, h2.rows, h3.rows⟩
theorem BLie.below {w w' : World} {lo hi : Nat} {c : Bb} (h : BLie w lo hi c) (hb : Below w.heap.size w w') : BLie w' lo hi c := by
  obtain ⟨m1, m2, a, b, d, h1, h2, h3⟩ := h.ex
  exact ⟨m1, m2, a, b, d, h1.below hb, h2.below hb, h3.below hb⟩
theorem BLie.set {w : World} {lo hi : Nat} {c : Bb} (h : BLie w lo hi c) {a : Addr} (ha : a.block < lo) (u : Value) : BLie (w.setCell a u) lo hi c := by
  obtain ⟨m1, m2, k1, k2, k3, h1, h2, h3⟩ := h.ex
  exact ⟨m1, m2, k1, k2, k3, h1.set ha u, h2.set (by omega) u, h3.set (by omega) u⟩
theorem BLie.mono {w : World} {lo hi lo' hi' : Nat} {c : Bb} (h : BLie w lo hi c) (k : lo' ≤ lo) (k' : hi ≤ hi') : BLie w lo' hi' c := by
  obtain ⟨m1, m2, k1, k2, k3, h1, h2, h3⟩ := h.ex
  exact ⟨m1, m2, by omega, k2, by omega, h1.mono k (Nat.le_refl _), h2, h3.mono (Nat.le_refl _) k'⟩
theorem BLie.zn {w w' : World} {lo hi l h : Nat} {c : Bb} (k : BLie w lo hi c) (hz : Zn l h w w') (hne : hi ≤ l ∨ h ≤ lo) : BLie w' lo hi c := by
  obtain ⟨m1, m2, k1, k2, k3, h1, h2, h3⟩ := k.ex
  exact ⟨m1, m2, k1, k2, k3, h1.zn hz (by omega), h2.zn hz (by omega), h3.zn hz (by omega)⟩

end Go.Proofs.Ytnneodofajhbcaa
