/- Arguments: ranges, writes and rows of them: what they are. -/
import Derived.Test.YtjieojfcmigcdaaOpen
import Derived.Test.YtjieojfcmigcdaaFit
import Derived.Lib.SmallJoins
import Derived.Deep.Strs
import Derived.ProofKit
import Derived.OpenShut
import Derived.ShutString
import Derived.ChangeOld
namespace Go.Proofs.Ytjieojfcmigcdaa
open Go.ChangeShapes Go.WideShapes Go.ChangeAt Go.RowKit Go.Deep
open KM

section
variable {H : Type} {enc : TypeId × Value → H} {W : World} {base : Nat}

set_option maxRecDepth 100000 in
theorem each_range {T n : Nat} {cs : List Value} {x : DataW H × List MemPlace} {f0 f1 : Field} (ht : Try.prog.underlying T = some (.struct #[f0, f1])) (h0 : f0.type = 9) (h1 : f1.type = 9) (o0 : f0.offset = 0) (o1 : f1.offset = 1)
    (h : DataW.trod enc Try.prog W 0 (fun _ => true) true n T cs = some x) (hl : cs.length = 2) : ∃ y : Rg, cs = encR.enc y ∧ (y.1.size ≤ maxLen ∧ y.2.size ≤ maxLen) := by
  obtain ⟨y0, y1, m, _, _, g0, g1⟩ := trod_struct2 ht h
  match cs, hl with
  | [c0, c1], _ =>
    rw [h0, o0, show Try.prog.cellsOf 9 = 1 by kernel_rfl] at g0
    rw [h1, o1, show Try.prog.cellsOf 9 = 1 by kernel_rfl] at g1
    simp only [List.drop_zero, List.take_succ_cons, List.take_zero, List.drop_succ_cons] at g0 g1
    obtain ⟨s0, e0, _, b0⟩ := DataW.trod_string Try.underlying9 g0
    obtain ⟨s1, e1, _, b1⟩ := DataW.trod_string Try.underlying9 g1
    simp only [List.cons.injEq, and_true] at e0 e1
    subst e0 e1
    exact ⟨(s0, s1), rfl, b0, b1⟩

set_option maxRecDepth 100000 in
theorem each_write {T n : Nat} {cs : List Value} {x : DataW H × List MemPlace} {f0 f1 f2 : Field} (ht : Try.prog.underlying T = some (.struct #[f0, f1, f2])) (h0 : f0.type = 9) (h1 : f1.type = 9) (h2 : f2.type = 4) (o0 : f0.offset = 0) (o1 : f1.offset = 1) (o2 : f2.offset = 2)
    (h : DataW.trod enc Try.prog W 0 (fun _ => true) true n T cs = some x) (hl : cs.length = 3) : ∃ y : Wt, cs = encW.enc y ∧ (y.1.size ≤ maxLen ∧ y.2.1.size ≤ maxLen) := by
  obtain ⟨y0, y1, y2, m, _, _, g0, g1, g2⟩ := trod_struct3 ht h
  match cs, hl with
  | [c0, c1, c2], _ =>
    rw [h0, o0, show Try.prog.cellsOf 9 = 1 by kernel_rfl] at g0
    rw [h1, o1, show Try.prog.cellsOf 9 = 1 by kernel_rfl] at g1
    rw [h2, o2, show Try.prog.cellsOf 4 = 1 by kernel_rfl] at g2
    simp only [List.drop_zero, List.take_succ_cons, List.take_zero, List.drop_succ_cons] at g0 g1 g2
    obtain ⟨s0, e0, _, b0⟩ := DataW.trod_string Try.underlying9 g0
    obtain ⟨s1, e1, _, b1⟩ := DataW.trod_string Try.underlying9 g1
    obtain ⟨s2, e2, _⟩ := DataW.trod_bool Try.underlying4 g2
    simp only [List.cons.injEq, and_true] at e0 e1 e2
    subst e0 e1 e2
    exact ⟨(s0, s1, s2), rfl, b0, b1⟩

end
end Go.Proofs.Ytjieojfcmigcdaa
