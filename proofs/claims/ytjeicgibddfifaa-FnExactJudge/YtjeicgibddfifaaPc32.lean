/- An argument that is a base: what it is. -/
import Derived.Test.YtjeicgibddfifaaPc31
import Derived.Test.YtjeicgibddfifaaPc09
import Derived.Test.YtjeicgibddfifaaPc13
namespace Go.Proofs.Ytjeicgibddfifaa
open Go.ChangeShapes Go.WideShapes Go.ChangeAt Go.RowKit Go.Deep
open KM

section
variable {H : Type} {enc : TypeId × Value → H} {W : World} {base : Nat}

theorem trod5 {P : Program} {w : World} {b : Nat} {spare : Nat → Bool} {held : Bool} {T : TypeId} {f0 f1 f2 f3 f4 : Field} {fuel : Nat} {cs : List Value} {x : DataW H × List MemPlace} (ht : P.underlying T = some (.struct #[f0, f1, f2, f3, f4])) (h : DataW.trod enc P w b spare held fuel T cs = some x) :
  ∃ y0 y1 y2 y3 y4 n, DataW.trod enc P w b spare held n f0.type ((cs.drop f0.offset).take (P.cellsOf f0.type)) = some y0 ∧ DataW.trod enc P w b spare held n f1.type ((cs.drop f1.offset).take (P.cellsOf f1.type)) = some y1 ∧ DataW.trod enc P w b spare held n f2.type ((cs.drop f2.offset).take (P.cellsOf f2.type)) = some y2 ∧ DataW.trod enc P w b spare held n f3.type ((cs.drop f3.offset).take (P.cellsOf f3.type)) = some y3 ∧ DataW.trod enc P w b spare held n f4.type ((cs.drop f4.offset).take (P.cellsOf f4.type)) = some y4 := by
 obtain ⟨xs, n, _, rfl, hl, hlen, hf⟩ := DataW.trod_struct ht h
 match xs, hlen with
 | [y0, y1, y2, y3, y4], _ => exact ⟨y0, y1, y2, y3, y4, n, by simpa using hf 0 f0 rfl, by simpa using hf 1 f1 rfl, by simpa using hf 2 f2 rfl, by simpa using hf 3 f3 rfl, by simpa using hf 4 f4 rfl⟩

set_option maxRecDepth 100000 in
set_option maxHeartbeats 1000000 in
theorem each_base {n : Nat} {c0 c1 c2 c3 c4 : Value} {x : DataW H × List MemPlace}
  (h : DataW.trod enc Try.prog W 0 (fun _ => true) true n 35 [c0, c1, c2, c3, c4] = some x) : ∃ b : Bb, [c0, c1, c2, c3, c4] = [.slice b.va b.vs.length b.vc, .slice b.pa b.ps.length b.pc, .slice b.qa b.qs.length b.qc, .int .i64 b.cs, .int .i64 b.nx] ∧ BArg W b := by
 obtain ⟨y0, y1, y2, y3, y4, m, g0, g1, g2, g3, g4⟩ := trod5 Try.underlying35 h
 simp only [show Try.prog.cellsOf 3 = 1 by kernel_rfl, show Try.prog.cellsOf 32 = 1 by kernel_rfl, show Try.prog.cellsOf 33 = 1 by kernel_rfl, List.drop_zero, List.take_succ_cons, List.take_zero, List.drop_succ_cons] at g0 g1 g2 g3 g4
 obtain ⟨vs, va, vc, e0, vl, vf, vr⟩ := open_rows encV (fun x => x.1.size ≤ maxLen ∧ x.2.1.size ≤ maxLen) Try.underlying32 (by kernel_rfl) (fun n cs x h hl => each_version Try.underlying92 rfl rfl rfl rfl rfl rfl rfl rfl h hl) g0
 letI : Inhabited Ta := ⟨someTa⟩
 have el : ∀ n cs x, DataW.trod enc Try.prog W 0 (fun _ => true) true n 74 cs = some x → cs.length = encT.size → ∃ y, cs = encT.enc y ∧ TArg W y.t y.ra y.wa := fun n cs x h hl => by
  obtain ⟨c0, c1, c2, c3, c4, c5, c6, c7, rfl⟩ := list8 hl
  obtain ⟨t, ra, wa, rc, wc, e, ha⟩ := each_txn h
  exact ⟨⟨t, ra, rc, wa, wc⟩, e, ha⟩
 obtain ⟨ps, pa, pc, e1, p1, p2, p3⟩ := open_rows encT (fun x => TArg W x.t x.ra x.wa) Try.underlying33 (by kernel_rfl) el g1
 obtain ⟨qs, qa, qc, e2, q1, q2, q3⟩ := open_rows encT (fun x => TArg W x.t x.ra x.wa) Try.underlying33 (by kernel_rfl) el g2
 obtain ⟨s3, e3, _⟩ := DataW.trod_int Try.underlying3 g3
 obtain ⟨s4, e4, _⟩ := DataW.trod_int Try.underlying3 g4
 simp only [List.cons.injEq, and_true] at e3 e4
 subst e0 e1 e2 e3 e4
 exact ⟨⟨vs, ps, qs, s3, s4, va, vc, pa, pc, qa, qc⟩, rfl, ⟨vl, vf, vr, ⟨p1, p2, p3⟩, ⟨q1, q2, q3⟩⟩⟩

end

end Go.Proofs.Ytjeicgibddfifaa

namespace Go.Proofs.Ytjeicgibddfifaa
open Go.ChangeShapes Go.WideShapes Go.ChangeAt Go.RowKit Go.Deep
open KM

theorem array6 {α : Type} {cs : Array α} (h : cs.size = 6) : ∃ c0 c1 c2 c3 c4 c5, cs = #[c0, c1, c2, c3, c4, c5] := by
 obtain ⟨l⟩ := cs
 match l, h with
 | [c0, c1, c2, c3, c4, c5], _ => exact ⟨c0, c1, c2, c3, c4, c5, rfl⟩

section
variable {H : Type} {enc : TypeId × Value → H} {W : World} {base : Nat}

theorem trod2E {P : Program} {w : World} {b : Nat} {spare : Nat → Bool} {held : Bool} {T : TypeId} {f0 f1 : Field} {fuel : Nat} {cs : List Value} {x : DataW H × List MemPlace} (ht : P.underlying T = some (.struct #[f0, f1])) (h : DataW.trod enc P w b spare held fuel T cs = some x) :
  ∃ y0 y1 n, DataW.trod enc P w b spare held n f0.type ((cs.drop f0.offset).take (P.cellsOf f0.type)) = some y0 ∧ DataW.trod enc P w b spare held n f1.type ((cs.drop f1.offset).take (P.cellsOf f1.type)) = some y1 := by
 obtain ⟨xs, n, _, rfl, hl, hlen, hf⟩ := DataW.trod_struct ht h
 match xs, hlen with
 | [y0, y1], _ => exact ⟨y0, y1, n, by simpa using hf 0 f0 rfl, by simpa using hf 1 f1 rfl⟩

set_option maxRecDepth 100000 in
set_option maxHeartbeats 1000000 in
theorem each_engine {n : Nat} {c0 c1 c2 c3 c4 c5 : Value} {x : DataW H × List MemPlace}
  (h : DataW.trod enc Try.prog W 0 (fun _ => true) true n 37 [c0, c1, c2, c3, c4, c5] = some x) : ∃ e : En, [c0, c1, c2, c3, c4, c5] = [.slice e.b.va e.b.vs.length e.b.vc, .slice e.b.pa e.b.ps.length e.b.pc, .slice e.b.qa e.b.qs.length e.b.qc, .int .i64 e.b.cs, .int .i64 e.b.nx, .slice e.oa e.os.length e.oc] ∧ EnArg W e := by
 obtain ⟨y0, y1, m, g0, g1⟩ := trod2E Try.underlying37 h
 simp only [show Try.prog.cellsOf 35 = 5 by kernel_rfl, show Try.prog.cellsOf 33 = 1 by kernel_rfl, List.drop_zero, List.take_succ_cons, List.take_zero, List.drop_succ_cons] at g0 g1
 obtain ⟨b, e4, hb⟩ := each_base g0
 letI : Inhabited Ta := ⟨someTa⟩
 have el : ∀ n cs x, DataW.trod enc Try.prog W 0 (fun _ => true) true n 74 cs = some x → cs.length = encT.size → ∃ y, cs = encT.enc y ∧ TArg W y.t y.ra y.wa := fun n cs x h hl => by
  obtain ⟨c0, c1, c2, c3, c4, c5, c6, c7, rfl⟩ := list8 hl
  obtain ⟨t, ra, wa, rc, wc, e, ha⟩ := each_txn h
  exact ⟨⟨t, ra, rc, wa, wc⟩, e, ha⟩
 obtain ⟨os, oa, oc, e1, p1, p2, p3⟩ := open_rows encT (fun x => TArg W x.t x.ra x.wa) Try.underlying33 (by kernel_rfl) el g1
 simp only [List.cons.injEq, and_true] at e4
 obtain ⟨k0, k1, k2, k3, k4⟩ := e4
 subst e1 k0 k1 k2 k3 k4
 exact ⟨⟨b, os, oa, oc⟩, rfl, ⟨hb, ⟨p1, p2, p3⟩⟩⟩

set_option maxRecDepth 100000 in
theorem open_engine {v : Value} {d : DataW H} {p : List MemPlace} (hv : Value.okWide Try.prog W .any base 37 v) (h : DataW.Trod enc Try.prog W 0 (fun _ => true) true 37 v d p) :
  ∃ e : En, v = .agg #[.slice e.b.va e.b.vs.length e.b.vc, .slice e.b.pa e.b.ps.length e.b.pc, .slice e.b.qa e.b.qs.length e.b.qc, .int .i64 e.b.cs, .int .i64 e.b.nx, .slice e.oa e.os.length e.oc] ∧ EnArg W e := by
 obtain ⟨cs, rfl, hsz⟩ := okWide_struct Try.underlying37 hv
 obtain ⟨c0, c1, c2, c3, c4, c5, rfl⟩ := array6 (hsz.trans (by kernel_rfl : Try.prog.cellsOf 37 = 6))
 obtain ⟨fuel, hf⟩ := h
 obtain ⟨r, e, ha⟩ := each_engine hf
 refine ⟨r, ?_, ha⟩
 simp only [List.cons.injEq, and_true] at e
 obtain ⟨e0, e1, e2, e3, e4, e5⟩ := e
 rw [e0, e1, e2, e3, e4, e5]
end
end Go.Proofs.Ytjeicgibddfifaa
