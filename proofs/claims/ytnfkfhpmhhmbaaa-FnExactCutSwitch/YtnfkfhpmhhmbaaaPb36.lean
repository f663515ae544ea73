/- A disk that is an argument: what it is. -/
import Derived.Test.YtnfkfhpmhhmbaaaPb03
import Derived.Lib.SmallJoins
import Derived.Deep.SlicePairs
import Derived.ProofKit
import Derived.OpenShut
import Derived.ShutString
import Derived.ChangeOld
import Derived.Test.YtnfkfhpmhhmbaaaPb34
namespace Go.Proofs.Ytnfkfhpmhhmbaaa
open Go.ChangeShapes Go.WideShapes Go.ChangeAt Go.RowKit Go.Deep

theorem laidOutT : laidOutB Try.prog = true := by kernel_rfl
theorem ownT : ownKnob Try.prog.godebug = none := by kernel_rfl

def strOf : Value → ByteArray
  | .string s => s
  | _ => ByteArray.empty
def numOf : Value → Int
  | .int _ n => n
  | _ => 0

section
variable {H : Type} {enc : TypeId × Value → H} {W : World} {base : Nat}

theorem open_texts {fuel : Nat} {v : Value} {y : DataW H × List MemPlace} (h : DataW.trod enc Try.prog W 0 (fun _ => true) true fuel 22 [v] = some y) :
    ∃ (ss : List ByteArray) (a : Option Addr) (c : Nat), v = .slice a ss.length c ∧ ss.length ≤ 9223372036854775807 ∧ (∀ s ∈ ss, s.size ≤ 9223372036854775807) ∧ SRow W a ss := by
  rcases open_slice1 Try.underlying22 (by kernel_rfl) h with ⟨hcs, _⟩ | ⟨a, len, cap, m, n, V, D, Pl, hcs, _, hl, hm, hmm, _, hx⟩
  · cases hcs
    exact ⟨[], none, 0, rfl, by simp, by simp, SRow.nil _ _⟩
  · cases hcs
    simp only [if_true] at hmm
    subst hmm
    unfold maxLen at hm
    have each : ∀ i, i < m → ∃ s : ByteArray, V i = .string s ∧ s.size ≤ 9223372036854775807 := fun i hi => by
      obtain ⟨s, h1, _, h3⟩ := DataW.trod_string Try.underlying9 (hx i hi).2
      simp only [List.cons.injEq, and_true] at h1
      unfold maxLen at h3
      exact ⟨s, h1, by omega⟩
    refine ⟨(List.range len).map fun i => strOf (V i), some a, m, by simp, by simp; omega, ?_, ?_⟩
    · intro s hs
      obtain ⟨i, hi, rfl⟩ := List.mem_map.1 hs
      obtain ⟨s, h1, h2⟩ := each i (by have := List.mem_range.1 hi; omega)
      rw [h1]; exact h2
    · intro h0
      have h0' : 0 < len := by simpa using h0
      obtain ⟨b, off, spot⟩ := a
      have hc0 := (hx 0 (by omega)).1
      have hspot : spot = none := by simpa [Addr.add] using World.cell?_spot hc0
      subst hspot
      refine ⟨b, off, rfl, by simpa [Addr.add] using World.block_lt_of_cell? W _ hc0, fun j hj => ?_⟩
      have hj' : j < len := by simpa using hj
      have hcj := (hx j (by omega)).1
      rw [Addr.add_lit] at hcj
      obtain ⟨s, h1, _⟩ := each j (by omega)
      rw [hcj, h1]
      simp [strOf, h1]

theorem open_puts {fuel : Nat} {v : Value} {y : DataW H × List MemPlace} (h : DataW.trod enc Try.prog W 0 (fun _ => true) true fuel 23 [v] = some y) :
    ∃ (ps : List Wr) (a : Option Addr) (c : Nat), v = .slice a ps.length c ∧ ps.length ≤ 9223372036854775807 ∧ (∀ p ∈ ps, p.2.size ≤ 9223372036854775807) ∧ PRow W a ps := by
  rcases open_slice_pairs Try.underlying23 Try.underlying61 (by kernel_rfl) rfl rfl (by kernel_rfl) (by kernel_rfl) h with ⟨hcs, _⟩ | ⟨a, len, cap, m, n, V0, V1, D0, D1, P0, P1, hcs, _, hl, hm, hmm, _, hx⟩
  · cases hcs
    exact ⟨[], none, 0, rfl, by simp, by simp, PRow.nil _ _⟩
  · cases hcs
    simp only [if_true] at hmm
    subst hmm
    unfold maxLen at hm
    have each : ∀ i, i < m → ∃ (x : Int) (s : ByteArray), V0 i = .int .i64 x ∧ V1 i = .string s ∧ s.size ≤ 9223372036854775807 := fun i hi => by
      obtain ⟨x, h1, _, _⟩ := DataW.trod_int Try.underlying3 (hx i hi).2.2.1
      obtain ⟨s, h2, _, h3⟩ := DataW.trod_string Try.underlying9 (hx i hi).2.2.2
      simp only [List.cons.injEq, and_true] at h1 h2
      unfold maxLen at h3
      exact ⟨x, s, h1, h2, by omega⟩
    refine ⟨(List.range len).map fun i => (numOf (V0 i), strOf (V1 i)), some a, m, by simp, by simp; omega, ?_, ?_⟩
    · intro p hp
      obtain ⟨i, hi, rfl⟩ := List.mem_map.1 hp
      obtain ⟨x, s, _, h1, h2⟩ := each i (by have := List.mem_range.1 hi; omega)
      show (strOf (V1 i)).size ≤ _
      rw [h1]; exact h2
    · intro h0
      have h0' : 0 < len := by simpa using h0
      obtain ⟨b, off, spot⟩ := a
      have hc0 := (hx 0 (by omega)).1
      have hspot : spot = none := by simpa [Addr.add] using World.cell?_spot hc0
      subst hspot
      refine ⟨b, off, rfl, by simpa [Addr.add] using World.block_lt_of_cell? W _ hc0, fun j hj => ?_⟩
      have hj' : j < len := by simpa using hj
      have hcj := (hx j (by omega)).1
      have hck := (hx j (by omega)).2.1
      rw [Addr.add_lit] at hcj hck
      obtain ⟨x, s, h1, h2, _⟩ := each j (by omega)
      refine ⟨?_, ?_⟩
      · rw [hcj, h1]
        simp [numOf, h1]
      · rw [show off + j * 2 + 1 = off + (j * 2 + 1) by omega, hck, h2]
        simp [strOf, h2]

set_option maxRecDepth 100000 in
theorem open_disk {v : Value} {d : DataW H} {p : List MemPlace} (hv : Value.okWide Try.prog W .any base 25 v) (h : DataW.Trod enc Try.prog W 0 (fun _ => true) true 25 v d p) :
    ∃ (ss : List ByteArray) (ps : List Wr) (a1 a2 : Option Addr) (c1 c2 : Nat), v = .agg #[.slice a1 ss.length c1, .slice a2 ps.length c2] ∧ Arg W a1 a2 ss ps := by
  obtain ⟨v0, v1, y0, y1, n, rfl, _, _, h0, h1⟩ := Go.Joins.open_agg2 Try.underlying25 (by kernel_rfl) (by kernel_rfl) hv h
  obtain ⟨ss, a1, c1, rfl, hn, hl, hs⟩ := open_texts h0
  obtain ⟨ps, a2, c2, rfl, hm, hlp, hp⟩ := open_puts h1
  exact ⟨ss, ps, a1, a2, c1, c2, rfl, ⟨hn, hl, hm, hlp, hs, hp⟩⟩
end
end Go.Proofs.Ytnfkfhpmhhmbaaa

namespace Go.Proofs.Ytnfkfhpmhhmbaaa
open Go.ChangeShapes Go.WideShapes Go.ChangeAt Go.RowKit Go.Deep

section
variable {H : Type} {enc : TypeId × Value → H} {W : World} {base : Nat}

set_option maxRecDepth 100000 in
theorem open_list {v : Value} {d : DataW H} {p : List MemPlace} (hv : Value.okWide Try.prog W .any base 22 v) (h : DataW.Trod enc Try.prog W 0 (fun _ => true) true 22 v d p) :
    ∃ (ss : List ByteArray) (a : Option Addr) (c : Nat), v = .slice a ss.length c ∧ ss.length ≤ 9223372036854775807 ∧ (∀ s ∈ ss, s.size ≤ 9223372036854775807) ∧ SRow W a ss := by
  obtain ⟨a0, len0, cap0, rfl⟩ := okWide_slice Try.underlying22 hv
  obtain ⟨m, hm⟩ := h
  exact open_texts hm
end
end Go.Proofs.Ytnfkfhpmhhmbaaa

namespace Go.Proofs.Ytnfkfhpmhhmbaaa
open Go.ChangeShapes Go.WideShapes Go.ChangeAt Go.RowKit Go.Deep

section
variable {H : Type} {enc : TypeId × Value → H} {W : World} {base : Nat}

theorem open_nums {fuel : Nat} {v : Value} {y : DataW H × List MemPlace} (h : DataW.trod enc Try.prog W 0 (fun _ => true) true fuel 26 [v] = some y) :
    ∃ (ks : List Int) (a : Option Addr) (c : Nat), v = .slice a ks.length c ∧ ks.length ≤ 9223372036854775807 ∧ KRow W a ks := by
  rcases open_slice1 Try.underlying26 (by kernel_rfl) h with ⟨hcs, _⟩ | ⟨a, len, cap, m, n, V, D, Pl, hcs, _, hl, hm, hmm, _, hx⟩
  · cases hcs
    exact ⟨[], none, 0, rfl, by simp, KRow.nil _ _⟩
  · cases hcs
    simp only [if_true] at hmm
    subst hmm
    unfold maxLen at hm
    have each : ∀ i, i < m → ∃ k : Int, V i = .int .i64 k := fun i hi => by
      obtain ⟨k, h1, _⟩ := DataW.trod_int Try.underlying3 (hx i hi).2
      simp only [List.cons.injEq, and_true] at h1
      exact ⟨k, h1⟩
    refine ⟨(List.range len).map fun i => numOf (V i), some a, m, by simp, by simp; omega, ?_⟩
    intro h0
    have h0' : 0 < len := by simpa using h0
    obtain ⟨b, off, spot⟩ := a
    have hc0 := (hx 0 (by omega)).1
    have hspot : spot = none := by simpa [Addr.add] using World.cell?_spot hc0
    subst hspot
    refine ⟨b, off, rfl, by simpa [Addr.add] using World.block_lt_of_cell? W _ hc0, fun j hj => ?_⟩
    have hj' : j < len := by simpa using hj
    have hcj := (hx j (by omega)).1
    rw [Addr.add_lit] at hcj
    obtain ⟨k, h1⟩ := each j (by omega)
    rw [hcj, h1]
    simp [numOf, h1]

set_option maxRecDepth 100000 in
theorem open_keep {v : Value} {d : DataW H} {p : List MemPlace} (hv : Value.okWide Try.prog W .any base 26 v) (h : DataW.Trod enc Try.prog W 0 (fun _ => true) true 26 v d p) :
    ∃ (ks : List Int) (a : Option Addr) (c : Nat), v = .slice a ks.length c ∧ ks.length ≤ 9223372036854775807 ∧ KRow W a ks := by
  obtain ⟨a0, len0, cap0, rfl⟩ := okWide_slice Try.underlying26 hv
  obtain ⟨m, hm⟩ := h
  exact open_nums hm
end
end Go.Proofs.Ytnfkfhpmhhmbaaa
