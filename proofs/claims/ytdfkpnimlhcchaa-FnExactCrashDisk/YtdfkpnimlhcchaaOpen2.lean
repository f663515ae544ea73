/- A row of numbers that is an argument: what it is. -/
import Derived.Test.YtdfkpnimlhcchaaOpen
import Derived.Test.YtdfkpnimlhcchaaH5
namespace Go.Proofs.Ytdfkpnimlhcchaa
open Go.ChangeShapes Go.WideShapes Go.ChangeAt Go.RowKit Go.Deep

section
variable {H : Type} {enc : TypeId × Value → H} {W : World} {base : Nat}

theorem open_nums {fuel : Nat} {v : Value} {y : DataW H × List MemPlace} (h : DataW.trod enc Try.prog W 0 (fun _ => true) true fuel 54 [v] = some y) :
    ∃ (ks : List Int) (a : Option Addr) (c : Nat), v = .slice a ks.length c ∧ ks.length ≤ 9223372036854775807 ∧ KRow W a ks := by
  rcases open_slice1 Try.underlying54 (by kernel_rfl) h with ⟨hcs, _⟩ | ⟨a, len, cap, m, n, V, D, Pl, hcs, _, hl, hm, hmm, _, hx⟩
  · cases hcs
    exact ⟨[], none, 0, rfl, by simp, KRow.nil _ _⟩
  · cases hcs
    simp only [if_true] at hmm
    subst hmm
    unfold maxLen at hm
    have each : ∀ i, i < m → ∃ k : Int, V i = .int .i64 k := fun i hi => by
      obtain ⟨k, h1, _⟩ := DataW.trod_int Try.underlying3 (hx i hi).2
      simp only [List.cons.injEq, and_true] at h1
      exact ⟨k, h1⟩
    refine ⟨(List.range len).map fun i => numOf (V i), some a, m, by simp, by simp; omega, ?_⟩
    intro h0
    have h0' : 0 < len := by simpa using h0
    obtain ⟨b, off, spot⟩ := a
    have hc0 := (hx 0 (by omega)).1
    have hspot : spot = none := by simpa [Addr.add] using World.cell?_spot hc0
    subst hspot
    refine ⟨b, off, rfl, by simpa [Addr.add] using World.block_lt_of_cell? W _ hc0, fun j hj => ?_⟩
    have hj' : j < len := by simpa using hj
    have hcj := (hx j (by omega)).1
    rw [Addr.add_lit] at hcj
    obtain ⟨k, h1⟩ := each j (by omega)
    rw [hcj, h1]
    simp [numOf, h1]

set_option maxRecDepth 100000 in
theorem open_keep {v : Value} {d : DataW H} {p : List MemPlace} (hv : Value.okWide Try.prog W .any base 54 v) (h : DataW.Trod enc Try.prog W 0 (fun _ => true) true 54 v d p) :
    ∃ (ks : List Int) (a : Option Addr) (c : Nat), v = .slice a ks.length c ∧ ks.length ≤ 9223372036854775807 ∧ KRow W a ks := by
  obtain ⟨a0, len0, cap0, rfl⟩ := okWide_slice Try.underlying54 hv
  obtain ⟨m, hm⟩ := h
  exact open_nums hm
end
end Go.Proofs.Ytdfkpnimlhcchaa
