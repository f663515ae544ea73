/- Arguments: rows of cells, what they are. -/
import Derived.Test.YtjieojfcmigcdaaKyOpen
namespace Go.Proofs.Ytjieojfcmigcdaa
open Go.ChangeShapes Go.WideShapes Go.ChangeAt Go.RowKit Go.Deep
open KM

section
variable {H : Type} {enc : TypeId × Value → H} {W : World} {base : Nat}
set_option maxRecDepth 100000 in
theorem open_cells {v : Value} {d : DataW H} {p : List MemPlace} (hv : Value.okWide Try.prog W .any base 22 v) (h : DataW.Trod enc Try.prog W 0 (fun _ => true) true 22 v d p) :
    ∃ (xs : List Rg) (a : Option Addr) (c : Nat), v = .slice a xs.length c ∧ xs.length ≤ maxLen ∧ (∀ x ∈ xs, x.1.size ≤ maxLen ∧ x.2.size ≤ maxLen) ∧ GRow encR W a xs := by
  obtain ⟨a0, len, cap, rfl⟩ := okWide_slice Try.underlying22 hv
  obtain ⟨fuel, hf⟩ := h
  exact open_rows encR (fun x => x.1.size ≤ maxLen ∧ x.2.size ≤ maxLen) Try.underlying22 (by kernel_rfl) (fun n cs x h hl => each_range Try.underlying31 rfl rfl rfl rfl h hl) hf
end
end Go.Proofs.Ytjieojfcmigcdaa
