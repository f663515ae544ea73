/- An argument that is a store: what it is. -/
import Derived.Test.YtmaipaeehalabaaPi25
import Derived.Test.YtmaipaeehalabaaPi17
namespace Go.Proofs.Ytmaipaeehalabaa
open Go.ChangeShapes Go.WideShapes Go.ChangeAt Go.RowKit Go.Deep
open KM

theorem array8S {α : Type} {cs : Array α} (h : cs.size = 8) : ∃ c0 c1 c2 c3 c4 c5 c6 c7, cs = #[c0, c1, c2, c3, c4, c5, c6, c7] := by
  obtain ⟨l⟩ := cs
  match l, h with
  | [c0, c1, c2, c3, c4, c5, c6, c7], _ => exact ⟨c0, c1, c2, c3, c4, c5, c6, c7, rfl⟩

section
variable {H : Type} {enc : TypeId × Value → H} {W : World} {base : Nat}

set_option maxRecDepth 100000 in
set_option maxHeartbeats 1000000 in
theorem each_disk {n : Nat} {c0 c1 : Value} {x : DataW H × List MemPlace}
    (h : DataW.trod enc Try.prog W 0 (fun _ => true) true n 46 [c0, c1] = some x) : ∃ d : Dk, [c0, c1] = [.slice d.sa d.ss.length d.sc, .slice d.pa d.ps.length d.pc] ∧ DArg W d := by
  obtain ⟨y0, y1, m, g0, g1⟩ := trod2E Try.underlying46 h
  simp only [show Try.prog.cellsOf 28 = 1 by kernel_rfl, show Try.prog.cellsOf 44 = 1 by kernel_rfl, List.drop_zero, List.take_succ_cons, List.take_zero, List.drop_succ_cons] at g0 g1
  obtain ⟨ss, a1, k1, rfl, hn, hl, hs⟩ := open_texts g0
  obtain ⟨ps, a2, k2, rfl, hm, hlp, hp⟩ := open_puts g1
  exact ⟨⟨ss, ps, a1, k1, a2, k2⟩, rfl, ⟨hn, hl, hm, hlp, ⟨hs, hp⟩⟩⟩

set_option maxRecDepth 100000 in
set_option maxHeartbeats 1000000 in
theorem open_store {v : Value} {d : DataW H} {p : List MemPlace} (hv : Value.okWide Try.prog W .any base 48 v) (h : DataW.Trod enc Try.prog W 0 (fun _ => true) true 48 v d p) :
    ∃ s : St, v = .agg #[.slice s.e.b.va s.e.b.vs.length s.e.b.vc, .slice s.e.b.pa s.e.b.ps.length s.e.b.pc, .slice s.e.b.qa s.e.b.qs.length s.e.b.qc, .int .i64 s.e.b.cs, .int .i64 s.e.b.nx, .slice s.e.oa s.e.os.length s.e.oc, .slice s.d.sa s.d.ss.length s.d.sc, .slice s.d.pa s.d.ps.length s.d.pc] ∧ StArg W s := by
  obtain ⟨cs, rfl, hsz⟩ := okWide_struct Try.underlying48 hv
  obtain ⟨c0, c1, c2, c3, c4, c5, c6, c7, rfl⟩ := array8S (hsz.trans (by kernel_rfl : Try.prog.cellsOf 48 = 8))
  obtain ⟨fuel, hf⟩ := h
  obtain ⟨y0, y1, m, g0, g1⟩ := trod2E Try.underlying48 hf
  simp only [show Try.prog.cellsOf 43 = 6 by kernel_rfl, show Try.prog.cellsOf 46 = 2 by kernel_rfl, List.drop_zero] at g0 g1
  obtain ⟨e, he, hea⟩ := each_engine g0
  obtain ⟨k, hk, hka⟩ := each_disk g1
  refine ⟨⟨e, k⟩, ?_, ⟨hea, hka⟩⟩
  simp only [List.cons.injEq, and_true] at he hk
  obtain ⟨e0, e1, e2, e3, e4, e5⟩ := he
  obtain ⟨e6, e7⟩ := hk
  rw [e0, e1, e2, e3, e4, e5, e6, e7]
end
end Go.Proofs.Ytmaipaeehalabaa
