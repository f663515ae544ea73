/- Arguments: ranges, writes and rows of them: what they are. -/
import Derived.Test.YtnneodofajhbcaaEnc
import Derived.Lib.SmallJoins
import Derived.Deep.Strs
import Derived.ProofKit
import Derived.OpenShut
import Derived.ShutString
import Derived.ChangeOld
namespace Go.Proofs.Ytnneodofajhbcaa
open Go.ChangeShapes Go.WideShapes Go.ChangeAt Go.RowKit Go.Deep
open KM

theorem laidOutT : laidOutB Try.prog = true := by kernel_rfl
theorem ownT : ownKnob Try.prog.godebug = none := by kernel_rfl

section
variable {H : Type} {enc : TypeId × Value → H} {W : World} {base : Nat}

theorem open_rows {α : Type} [Inhabited α] (E : Enc α) (ok : α → Prop) {t e : TypeId} (ht : Try.prog.underlying t = some (.slice e)) (hc : Try.prog.cellsOf e = E.size)
    (each : ∀ n cs x, DataW.trod enc Try.prog W 0 (fun _ => true) true n e cs = some x → cs.length = E.size → ∃ y, cs = E.enc y ∧ ok y)
    {fuel : Nat} {v : Value} {y : DataW H × List MemPlace} (h : DataW.trod enc Try.prog W 0 (fun _ => true) true fuel t [v] = some y) :
    ∃ (xs : List α) (a : Option Addr) (c : Nat), v = .slice a xs.length c ∧ xs.length ≤ maxLen ∧ (∀ x ∈ xs, ok x) ∧ GRow E W a xs := by
  rcases open_slice ht h with ⟨hcs, _⟩ | ⟨a, len, cap, m, n, D, Pl, hcs, _, hl, hm, hmm, _, hx⟩
  · cases hcs
    exact ⟨[], none, 0, rfl, by simp, by simp, GRow.nil _ _⟩
  · cases hcs
    simp only [if_true] at hmm
    subst hmm
    have ea : ∀ i, i < m → ∃ y : α, ok y ∧ ∀ k, k < E.size → W.cell? (a.add (i * E.size + k)) = (E.enc y)[k]? := fun i hi => by
      obtain ⟨cs', h1, h2⟩ := hx i hi
      rw [hc] at h1
      obtain ⟨_, hlen, hcell⟩ := World.cells?_some h1
      obtain ⟨y, rfl, hok⟩ := each n cs' _ h2 hlen
      refine ⟨y, hok, fun k hk => ?_⟩
      have := hcell k (by omega)
      rw [add_add] at this
      exact this
    obtain ⟨f, hf⟩ := choose_lt ea
    refine ⟨(List.range len).map f, some a, m, by simp, by simp; omega, ?_, ?_⟩
    · intro x hx
      obtain ⟨i, hi, rfl⟩ := List.mem_map.1 hx
      exact (hf i (by have := List.mem_range.1 hi; omega)).1
    · intro h0
      have h0' : 0 < len := by simpa using h0
      obtain ⟨b, off, spot⟩ := a
      have hc0 := (hf 0 (by omega)).2 0 E.pos
      have hsome : ∃ v, W.cell? ((⟨b, off, spot⟩ : Addr).add (0 * E.size + 0)) = some v := by
        rw [hc0]
        exact ⟨_, List.getElem?_eq_getElem (by rw [E.len]; exact E.pos)⟩
      obtain ⟨v0, hv0⟩ := hsome
      have hspot : spot = none := by simpa [Addr.add] using World.cell?_spot hv0
      subst hspot
      refine ⟨b, off, rfl, by simpa [Addr.add] using World.block_lt_of_cell? W _ hv0, fun j hj i hi => ?_⟩
      have hj' : j < len := by simpa using hj
      have := (hf j (by omega)).2 i hi
      rw [Addr.add_lit] at this
      rw [Nat.add_assoc, this]
      simp
end
end Go.Proofs.Ytnneodofajhbcaa
