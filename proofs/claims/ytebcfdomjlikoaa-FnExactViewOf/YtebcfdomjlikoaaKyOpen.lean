/- Arguments: ranges, writes and rows of them: what they are. -/
import Derived.Test.YtebcfdomjlikoaaOpen
import Derived.Test.YtebcfdomjlikoaaFit
import Derived.Lib.SmallJoins
import Derived.Deep.Strs
import Derived.ProofKit
import Derived.OpenShut
import Derived.ShutString
import Derived.ChangeOld
namespace Go.Proofs.Ytebcfdomjlikoaa
open Go.ChangeShapes Go.WideShapes Go.ChangeAt Go.RowKit Go.Deep
open KM

section
variable {H : Type} {enc : TypeId × Value → H} {W : World} {base : Nat}

set_option maxRecDepth 100000 in
theorem each_range {T n : Nat} {cs : List Value} {x : DataW H × List MemPlace} {f0 f1 : Field} (ht : Try.prog.underlying T = some (.struct #[f0, f1])) (h0 : f0.type = 9) (h1 : f1.type = 9) (o0 : f0.offset = 0) (o1 : f1.offset = 1)
    (h : DataW.trod enc Try.prog W 0 (fun _ => true) true n T cs = some x) (hl : cs.length = 2) : ∃ y : Rg, cs = encR.enc y ∧ (y.1.size ≤ maxLen ∧ y.2.size ≤ maxLen) := by
  obtain ⟨y0, y1, m, _, _, g0, g1⟩ := trod_struct2 ht h
  match cs, hl with
  | [c0, c1], _ =>
    rw [h0, o0, show Try.prog.cellsOf 9 = 1 by kernel_rfl] at g0
    rw [h1, o1, show Try.prog.cellsOf 9 = 1 by kernel_rfl] at g1
    simp only [List.drop_zero, List.take_succ_cons, List.take_zero, List.drop_succ_cons] at g0 g1
    obtain ⟨s0, e0, _, b0⟩ := DataW.trod_string Try.underlying9 g0
    obtain ⟨s1, e1, _, b1⟩ := DataW.trod_string Try.underlying9 g1
    simp only [List.cons.injEq, and_true] at e0 e1
    subst e0 e1
    exact ⟨(s0, s1), rfl, b0, b1⟩

set_option maxRecDepth 100000 in
theorem each_write {T n : Nat} {cs : List Value} {x : DataW H × List MemPlace} {f0 f1 f2 : Field} (ht : Try.prog.underlying T = some (.struct #[f0, f1, f2])) (h0 : f0.type = 9) (h1 : f1.type = 9) (h2 : f2.type = 4) (o0 : f0.offset = 0) (o1 : f1.offset = 1) (o2 : f2.offset = 2)
    (h : DataW.trod enc Try.prog W 0 (fun _ => true) true n T cs = some x) (hl : cs.length = 3) : ∃ y : Wt, cs = encW.enc y ∧ (y.1.size ≤ maxLen ∧ y.2.1.size ≤ maxLen) := by
  obtain ⟨y0, y1, y2, m, _, _, g0, g1, g2⟩ := trod_struct3 ht h
  match cs, hl with
  | [c0, c1, c2], _ =>
    rw [h0, o0, show Try.prog.cellsOf 9 = 1 by kernel_rfl] at g0
    rw [h1, o1, show Try.prog.cellsOf 9 = 1 by kernel_rfl] at g1
    rw [h2, o2, show Try.prog.cellsOf 4 = 1 by kernel_rfl] at g2
    simp only [List.drop_zero, List.take_succ_cons, List.take_zero, List.drop_succ_cons] at g0 g1 g2
    obtain ⟨s0, e0, _, b0⟩ := DataW.trod_string Try.underlying9 g0
    obtain ⟨s1, e1, _, b1⟩ := DataW.trod_string Try.underlying9 g1
    obtain ⟨s2, e2, _⟩ := DataW.trod_bool Try.underlying4 g2
    simp only [List.cons.injEq, and_true] at e0 e1 e2
    subst e0 e1 e2
    exact ⟨(s0, s1, s2), rfl, b0, b1⟩

set_option maxRecDepth 100000 in
theorem open_write {v : Value} {d : DataW H} {p : List MemPlace} (hv : Value.okWide Try.prog W .any base 88 v) (h : DataW.Trod enc Try.prog W 0 (fun _ => true) true 88 v d p) :
    ∃ (f t : ByteArray) (g : Bool), v = .agg #[.string f, .string t, .bool g] ∧ f.size ≤ maxLen ∧ t.size ≤ maxLen := by
  obtain ⟨v0, v1, v2, y0, y1, y2, n, rfl, _, _, h0, h1, h2⟩ := Go.Joins.open_agg3 Try.underlying88 (by kernel_rfl) (by kernel_rfl) hv h
  obtain ⟨s0, e0, _, b0⟩ := DataW.trod_string Try.underlying9 h0
  obtain ⟨s1, e1, _, b1⟩ := DataW.trod_string Try.underlying9 h1
  obtain ⟨s2, e2, _⟩ := DataW.trod_bool Try.underlying4 h2
  simp only [List.cons.injEq, and_true] at e0 e1 e2
  subst e0 e1 e2
  exact ⟨s0, s1, s2, rfl, b0, b1⟩

set_option maxRecDepth 100000 in
theorem open_writes {v : Value} {d : DataW H} {p : List MemPlace} (hv : Value.okWide Try.prog W .any base 23 v) (h : DataW.Trod enc Try.prog W 0 (fun _ => true) true 23 v d p) :
    ∃ (xs : List Wt) (a : Option Addr) (c : Nat), v = .slice a xs.length c ∧ xs.length ≤ maxLen ∧ (∀ x ∈ xs, x.1.size ≤ maxLen ∧ x.2.1.size ≤ maxLen) ∧ GRow encW W a xs := by
  obtain ⟨a0, len, cap, rfl⟩ := okWide_slice Try.underlying23 hv
  obtain ⟨fuel, hf⟩ := h
  exact open_rows encW (fun x => x.1.size ≤ maxLen ∧ x.2.1.size ≤ maxLen) Try.underlying23 (by kernel_rfl) (fun n cs x h hl => each_write Try.underlying88 rfl rfl rfl rfl rfl rfl h hl) hf

set_option maxRecDepth 100000 in
theorem open_ranges {v : Value} {d : DataW H} {p : List MemPlace} (hv : Value.okWide Try.prog W .any base 22 v) (h : DataW.Trod enc Try.prog W 0 (fun _ => true) true 22 v d p) :
    ∃ (xs : List Rg) (a : Option Addr) (c : Nat), v = .slice a xs.length c ∧ xs.length ≤ maxLen ∧ (∀ x ∈ xs, x.1.size ≤ maxLen ∧ x.2.size ≤ maxLen) ∧ GRow encR W a xs := by
  obtain ⟨a0, len, cap, rfl⟩ := okWide_slice Try.underlying22 hv
  obtain ⟨fuel, hf⟩ := h
  exact open_rows encR (fun x => x.1.size ≤ maxLen ∧ x.2.size ≤ maxLen) Try.underlying22 (by kernel_rfl) (fun n cs x h hl => each_range Try.underlying48 rfl rfl rfl rfl h hl) hf
end
end Go.Proofs.Ytebcfdomjlikoaa
