/- An argument that is a base: what it is. -/
import Derived.Test.YtnefncmkhgkdnaaOpenL
import Derived.Test.YtnefncmkhgkdnaaB1
namespace Go.Proofs.Ytnefncmkhgkdnaa
open Go.ChangeShapes Go.WideShapes Go.ChangeAt Go.RowKit Go.Deep
open KM

theorem array5 {α : Type} {cs : Array α} (h : cs.size = 5) : ∃ c0 c1 c2 c3 c4, cs = #[c0, c1, c2, c3, c4] := by
  obtain ⟨l⟩ := cs
  match l, h with
  | [c0, c1, c2, c3, c4], _ => exact ⟨c0, c1, c2, c3, c4, rfl⟩

section
variable {H : Type} {enc : TypeId × Value → H} {W : World} {base : Nat}

theorem trod5 {P : Program} {w : World} {b : Nat} {spare : Nat → Bool} {held : Bool} {T : TypeId} {f0 f1 f2 f3 f4 : Field} {fuel : Nat} {cs : List Value} {x : DataW H × List MemPlace} (ht : P.underlying T = some (.struct #[f0, f1, f2, f3, f4])) (h : DataW.trod enc P w b spare held fuel T cs = some x) :
    ∃ y0 y1 y2 y3 y4 n, DataW.trod enc P w b spare held n f0.type ((cs.drop f0.offset).take (P.cellsOf f0.type)) = some y0 ∧ DataW.trod enc P w b spare held n f1.type ((cs.drop f1.offset).take (P.cellsOf f1.type)) = some y1 ∧ DataW.trod enc P w b spare held n f2.type ((cs.drop f2.offset).take (P.cellsOf f2.type)) = some y2 ∧ DataW.trod enc P w b spare held n f3.type ((cs.drop f3.offset).take (P.cellsOf f3.type)) = some y3 ∧ DataW.trod enc P w b spare held n f4.type ((cs.drop f4.offset).take (P.cellsOf f4.type)) = some y4 := by
  obtain ⟨xs, n, _, rfl, hl, hlen, hf⟩ := DataW.trod_struct ht h
  match xs, hlen with
  | [y0, y1, y2, y3, y4], _ => exact ⟨y0, y1, y2, y3, y4, n, by simpa using hf 0 f0 rfl, by simpa using hf 1 f1 rfl, by simpa using hf 2 f2 rfl, by simpa using hf 3 f3 rfl, by simpa using hf 4 f4 rfl⟩

set_option maxRecDepth 100000 in
set_option maxHeartbeats 1000000 in
theorem each_base {n : Nat} {c0 c1 c2 c3 c4 : Value} {x : DataW H × List MemPlace}
    (h : DataW.trod enc Try.prog W 0 (fun _ => true) true n 53 [c0, c1, c2, c3, c4] = some x) : ∃ b : Bb, [c0, c1, c2, c3, c4] = [.slice b.va b.vs.length b.vc, .slice b.pa b.ps.length b.pc, .slice b.qa b.qs.length b.qc, .int .i64 b.cs, .int .i64 b.nx] ∧ BArg W b := by
  obtain ⟨y0, y1, y2, y3, y4, m, g0, g1, g2, g3, g4⟩ := trod5 Try.underlying53 h
  simp only [show Try.prog.cellsOf 3 = 1 by kernel_rfl, show Try.prog.cellsOf 51 = 1 by kernel_rfl, show Try.prog.cellsOf 36 = 1 by kernel_rfl, List.drop_zero, List.take_succ_cons, List.take_zero, List.drop_succ_cons] at g0 g1 g2 g3 g4
  obtain ⟨vs, va, vc, e0, vl, vf, vr⟩ := open_rows encV (fun x => x.1.size ≤ maxLen ∧ x.2.1.size ≤ maxLen) Try.underlying51 (by kernel_rfl) (fun n cs x h hl => each_version Try.underlying121 rfl rfl rfl rfl rfl rfl rfl rfl h hl) g0
  letI : Inhabited Ta := ⟨someTa⟩
  have el : ∀ n cs x, DataW.trod enc Try.prog W 0 (fun _ => true) true n 35 cs = some x → cs.length = encT.size → ∃ y, cs = encT.enc y ∧ TArg W y.t y.ra y.wa := fun n cs x h hl => by
    obtain ⟨c0, c1, c2, c3, c4, c5, c6, c7, rfl⟩ := list8 hl
    obtain ⟨t, ra, wa, rc, wc, e, ha⟩ := each_txn h
    exact ⟨⟨t, ra, rc, wa, wc⟩, e, ha⟩
  obtain ⟨ps, pa, pc, e1, p1, p2, p3⟩ := open_rows encT (fun x => TArg W x.t x.ra x.wa) Try.underlying36 (by kernel_rfl) el g1
  obtain ⟨qs, qa, qc, e2, q1, q2, q3⟩ := open_rows encT (fun x => TArg W x.t x.ra x.wa) Try.underlying36 (by kernel_rfl) el g2
  obtain ⟨s3, e3, _⟩ := DataW.trod_int Try.underlying3 g3
  obtain ⟨s4, e4, _⟩ := DataW.trod_int Try.underlying3 g4
  simp only [List.cons.injEq, and_true] at e3 e4
  subst e0 e1 e2 e3 e4
  exact ⟨⟨vs, ps, qs, s3, s4, va, vc, pa, pc, qa, qc⟩, rfl, ⟨vl, vf, vr, ⟨p1, p2, p3⟩, ⟨q1, q2, q3⟩⟩⟩

set_option maxRecDepth 100000 in
theorem open_base {v : Value} {d : DataW H} {p : List MemPlace} (hv : Value.okWide Try.prog W .any base 53 v) (h : DataW.Trod enc Try.prog W 0 (fun _ => true) true 53 v d p) :
    ∃ b : Bb, v = .agg #[.slice b.va b.vs.length b.vc, .slice b.pa b.ps.length b.pc, .slice b.qa b.qs.length b.qc, .int .i64 b.cs, .int .i64 b.nx] ∧ BArg W b := by
  obtain ⟨cs, rfl, hsz⟩ := okWide_struct Try.underlying53 hv
  obtain ⟨c0, c1, c2, c3, c4, rfl⟩ := array5 (hsz.trans (by kernel_rfl : Try.prog.cellsOf 53 = 5))
  obtain ⟨fuel, hf⟩ := h
  obtain ⟨b, e, ha⟩ := each_base hf
  refine ⟨b, ?_, ha⟩
  simp only [List.cons.injEq, and_true] at e
  obtain ⟨e0, e1, e2, e3, e4⟩ := e
  rw [e0, e1, e2, e3, e4]
end

end Go.Proofs.Ytnefncmkhgkdnaa
