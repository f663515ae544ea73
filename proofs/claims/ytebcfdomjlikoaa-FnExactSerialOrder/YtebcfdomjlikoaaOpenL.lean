/- An argument that is a list of those that look and change: what it is. -/
import Derived.Test.YtebcfdomjlikoaaOpenT
import Derived.Test.YtebcfdomjlikoaaL1
namespace Go.Proofs.Ytebcfdomjlikoaa
open Go.ChangeShapes Go.WideShapes Go.ChangeAt Go.RowKit Go.Deep
open KM

theorem list8 {α : Type} {cs : List α} (h : cs.length = 8) : ∃ c0 c1 c2 c3 c4 c5 c6 c7, cs = [c0, c1, c2, c3, c4, c5, c6, c7] := by
  obtain ⟨c0, c1, c2, c3, c4, c5, c6, c7, e⟩ := array8 (cs := cs.toArray) (by simpa using h)
  exact ⟨c0, c1, c2, c3, c4, c5, c6, c7, by simpa using congrArg Array.toList e⟩
section
variable {H : Type} {enc : TypeId × Value → H} {W : World} {base : Nat}
set_option maxRecDepth 100000 in
theorem open_txns {v : Value} {d : DataW H} {p : List MemPlace} (hv : Value.okWide Try.prog W .any base 34 v) (h : DataW.Trod enc Try.prog W 0 (fun _ => true) true 34 v d p) :
    ∃ (xs : List Ta) (a : Option Addr) (c : Nat), v = .slice a xs.length c ∧ LArg W a xs := by
  obtain ⟨a0, len, cap, rfl⟩ := okWide_slice Try.underlying34 hv
  obtain ⟨fuel, hf⟩ := h
  letI : Inhabited Ta := ⟨someTa⟩
  obtain ⟨xs, a, c, e, h1, h2, h3⟩ := open_rows encT (fun x => TArg W x.t x.ra x.wa) Try.underlying34 (by kernel_rfl) (fun n cs x h hl => by
    obtain ⟨c0, c1, c2, c3, c4, c5, c6, c7, rfl⟩ := list8 hl
    obtain ⟨t, ra, wa, rc, wc, e, ha⟩ := each_txn h
    exact ⟨⟨t, ra, rc, wa, wc⟩, e, ha⟩) hf
  exact ⟨xs, a, c, e, h1, h2, h3⟩
end

end Go.Proofs.Ytebcfdomjlikoaa
