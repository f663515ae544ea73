/- Arguments: ranges, writes and rows of them: what they are. -/
import Derived.Test.YtjieojfcmigcdaaEnc
import Derived.Lib.SmallJoins
import Derived.Deep.Strs
import Derived.ProofKit
import Derived.OpenShut
import Derived.ShutString
import Derived.ChangeOld
namespace Go.Proofs.Ytjieojfcmigcdaa
open Go.ChangeShapes Go.WideShapes Go.ChangeAt Go.RowKit Go.Deep
open KM

theorem laidOutT : laidOutB Try.prog = true := by kernel_rfl
theorem ownT : ownKnob Try.prog.godebug = none := by kernel_rfl

section
variable {H : Type} {enc : TypeId × Value → H} {W : World} {base : Nat}

theorem open_rows {α : Type} [Inhabited α] (E : Enc α) (ok : α → Prop) {t e : TypeId} (ht : Try.prog.underlying t = some (.slice e)) (hc : Try.prog.cellsOf e = E.size)
    (each : ∀ n cs x, DataW.trod enc Try.prog W 0 (fun _ => true) true n e cs = some x → cs.length = E.size → ∃ y, cs = E.enc y ∧ ok y)
    {fuel : Nat} {v : Value} {y : DataW H × List MemPlace} (h : DataW.trod enc Try.prog W 0 (fun _ => true) true fuel t [v] = some y) :
    ∃ (xs : List α) (a : Option Addr) (c : Nat), v = .slice a xs.length c ∧ xs.length ≤ maxLen ∧ (∀ x ∈ xs, ok x) ∧ GRow E W a xs := by
  rcases open_slice ht h with ⟨hcs, _⟩ | ⟨a, len, cap, m, n, D, Pl, hcs, _, hl, hm, hmm, _, hx⟩
  · cases hcs
    exact ⟨[], none, 0, rfl, by simp, by simp, GRow.nil _ _⟩
  · cases hcs
    simp only [if_true] at hmm
    subst hmm
    have ea : ∀ i, i < m → ∃ y : α, ok y ∧ ∀ k, k < E.size → W.cell? (a.add (i * E.size + k)) = (E.enc y)[k]? := fun i hi => by
      obtain ⟨cs', h1, h2⟩ := hx i hi
      rw [hc] at h1
      obtain ⟨_, hlen, hcell⟩ := World.cells?_some h1
      obtain ⟨y, rfl, hok⟩ := each n cs' _ h2 hlen
      refine ⟨y, hok, fun k hk => ?_⟩
      have := hcell k (by omega)
      rw [add_add] at this
      exact this
    obtain ⟨f, hf⟩ := choose_lt ea
    refine ⟨(List.range len).map f, some a, m, by simp, by simp; omega, ?_, ?_⟩
    · intro x hx
      obtain ⟨i, hi, rfl⟩ := List.mem_map.1 hx
      exact (hf i (by have := List.mem_range.1 hi; omega)).1
    · intro h0
      have h0' : 0 < len := by simpa using h0
      obtain ⟨b, off, spot⟩ := a
      have hc0 := (hf 0 (by omega)).2 0 E.pos
      have hsome : ∃ v, W.cell? ((⟨b, off, spot⟩ : Addr).add (0 * E.size + 0)) = some v := by
        rw [hc0]
        exact ⟨_, List.getElem?_eq_getElem (by rw [E.len]; exact E.pos)⟩
      obtain ⟨v0, hv0⟩ := hsome
      have hspot : spot = none := by simpa [Addr.add] using World.cell?_spot hv0
      subst hspot
      refine ⟨b, off, rfl, by simpa [Addr.add] using World.block_lt_of_cell? W _ hv0, fun j hj i hi => ?_⟩
      have hj' : j < len := by simpa using hj
      have := (hf j (by omega)).2 i hi
      rw [Addr.add_lit] at this
      rw [Nat.add_assoc, this]
      simp

set_option maxRecDepth 100000 in
theorem each_version {T n : Nat} {cs : List Value} {x : DataW H × List MemPlace} {f0 f1 f2 f3 : Field} (ht : Try.prog.underlying T = some (.struct #[f0, f1, f2, f3])) (h0 : f0.type = 9) (h1 : f1.type = 9) (h2 : f2.type = 4) (h3 : f3.type = 3) (o0 : f0.offset = 0) (o1 : f1.offset = 1) (o2 : f2.offset = 2) (o3 : f3.offset = 3)
    (h : DataW.trod enc Try.prog W 0 (fun _ => true) true n T cs = some x) (hl : cs.length = 4) : ∃ y : Vr, cs = encV.enc y ∧ (y.1.size ≤ maxLen ∧ y.2.1.size ≤ maxLen) := by
  obtain ⟨y0, y1, y2, y3, m, _, _, g0, g1, g2, g3⟩ := Go.Joins.trod_struct4 ht h
  match cs, hl with
  | [c0, c1, c2, c3], _ =>
    rw [h0, o0, show Try.prog.cellsOf 9 = 1 by kernel_rfl] at g0
    rw [h1, o1, show Try.prog.cellsOf 9 = 1 by kernel_rfl] at g1
    rw [h2, o2, show Try.prog.cellsOf 4 = 1 by kernel_rfl] at g2
    rw [h3, o3, show Try.prog.cellsOf 3 = 1 by kernel_rfl] at g3
    simp only [List.drop_zero, List.take_succ_cons, List.take_zero, List.drop_succ_cons] at g0 g1 g2 g3
    obtain ⟨s0, e0, _, b0⟩ := DataW.trod_string Try.underlying9 g0
    obtain ⟨s1, e1, _, b1⟩ := DataW.trod_string Try.underlying9 g1
    obtain ⟨s2, e2, _⟩ := DataW.trod_bool Try.underlying4 g2
    obtain ⟨s3, e3, _⟩ := DataW.trod_int Try.underlying3 g3
    simp only [List.cons.injEq, and_true] at e0 e1 e2 e3
    subst e0 e1 e2 e3
    exact ⟨(s0, s1, s2, s3), rfl, b0, b1⟩

end
end Go.Proofs.Ytjieojfcmigcdaa
