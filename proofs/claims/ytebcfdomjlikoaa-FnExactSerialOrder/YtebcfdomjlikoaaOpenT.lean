/- An argument that looks and changes: what it is. -/
import Derived.Test.YtebcfdomjlikoaaKyOpen
import Derived.Test.YtebcfdomjlikoaaA3
namespace Go.Proofs.Ytebcfdomjlikoaa
open Go.ChangeShapes Go.WideShapes Go.ChangeAt Go.RowKit Go.Deep
open KM

theorem array8 {α : Type} {cs : Array α} (h : cs.size = 8) : ∃ c0 c1 c2 c3 c4 c5 c6 c7, cs = #[c0, c1, c2, c3, c4, c5, c6, c7] := by
  obtain ⟨l⟩ := cs
  match l, h with
  | [c0, c1, c2, c3, c4, c5, c6, c7], _ => exact ⟨c0, c1, c2, c3, c4, c5, c6, c7, rfl⟩

section
variable {H : Type} {enc : TypeId × Value → H} {W : World} {base : Nat}

theorem trod8 {P : Program} {w : World} {b : Nat} {spare : Nat → Bool} {held : Bool} {T : TypeId} {f0 f1 f2 f3 f4 f5 f6 f7 : Field} {fuel : Nat} {cs : List Value} {x : DataW H × List MemPlace} (ht : P.underlying T = some (.struct #[f0, f1, f2, f3, f4, f5, f6, f7])) (h : DataW.trod enc P w b spare held fuel T cs = some x) :
    ∃ y0 y1 y2 y3 y4 y5 y6 y7 n, DataW.trod enc P w b spare held n f0.type ((cs.drop f0.offset).take (P.cellsOf f0.type)) = some y0 ∧ DataW.trod enc P w b spare held n f1.type ((cs.drop f1.offset).take (P.cellsOf f1.type)) = some y1 ∧ DataW.trod enc P w b spare held n f2.type ((cs.drop f2.offset).take (P.cellsOf f2.type)) = some y2 ∧ DataW.trod enc P w b spare held n f3.type ((cs.drop f3.offset).take (P.cellsOf f3.type)) = some y3 ∧ DataW.trod enc P w b spare held n f4.type ((cs.drop f4.offset).take (P.cellsOf f4.type)) = some y4 ∧ DataW.trod enc P w b spare held n f5.type ((cs.drop f5.offset).take (P.cellsOf f5.type)) = some y5 ∧ DataW.trod enc P w b spare held n f6.type ((cs.drop f6.offset).take (P.cellsOf f6.type)) = some y6 ∧ DataW.trod enc P w b spare held n f7.type ((cs.drop f7.offset).take (P.cellsOf f7.type)) = some y7 := by
  obtain ⟨xs, n, _, rfl, hl, hlen, hf⟩ := DataW.trod_struct ht h
  match xs, hlen with
  | [y0, y1, y2, y3, y4, y5, y6, y7], _ => exact ⟨y0, y1, y2, y3, y4, y5, y6, y7, n, by simpa using hf 0 f0 rfl, by simpa using hf 1 f1 rfl, by simpa using hf 2 f2 rfl, by simpa using hf 3 f3 rfl, by simpa using hf 4 f4 rfl, by simpa using hf 5 f5 rfl, by simpa using hf 6 f6 rfl, by simpa using hf 7 f7 rfl⟩

set_option maxRecDepth 100000 in
set_option maxHeartbeats 1000000 in
theorem each_txn {n : Nat} {c0 c1 c2 c3 c4 c5 c6 c7 : Value} {x : DataW H × List MemPlace}
    (h : DataW.trod enc Try.prog W 0 (fun _ => true) true n 25 [c0, c1, c2, c3, c4, c5, c6, c7] = some x) : ∃ (t : Tx) (ra wa : Option Addr) (rc wc : Nat), [c0, c1, c2, c3, c4, c5, c6, c7] = txV t ra rc wa wc ∧ TArg W t ra wa := by
  obtain ⟨y0, y1, y2, y3, y4, y5, y6, y7, m, g0, g1, g2, g3, g4, g5, g6, g7⟩ := trod8 Try.underlying25 h
  simp only [show Try.prog.cellsOf 3 = 1 by kernel_rfl, show Try.prog.cellsOf 4 = 1 by kernel_rfl, show Try.prog.cellsOf 9 = 1 by kernel_rfl, show Try.prog.cellsOf 22 = 1 by kernel_rfl, show Try.prog.cellsOf 23 = 1 by kernel_rfl, List.drop_zero, List.take_succ_cons, List.take_zero, List.drop_succ_cons] at g0 g1 g2 g3 g4 g5 g6 g7
  obtain ⟨s0, e0, _⟩ := DataW.trod_int Try.underlying3 g0
  obtain ⟨s1, e1, _⟩ := DataW.trod_int Try.underlying3 g1
  obtain ⟨s2, e2, _⟩ := DataW.trod_int Try.underlying3 g2
  obtain ⟨s3, e3, _⟩ := DataW.trod_int Try.underlying3 g3
  obtain ⟨rs, ra, rc, e4, rl, rf, rr⟩ := open_rows encR (fun x => x.1.size ≤ maxLen ∧ x.2.size ≤ maxLen) Try.underlying22 (by kernel_rfl) (fun n cs x h hl => each_range Try.underlying48 rfl rfl rfl rfl h hl) g4
  obtain ⟨ws, wa, wc, e5, wl, wf, wr⟩ := open_rows encW (fun x => x.1.size ≤ maxLen ∧ x.2.1.size ≤ maxLen) Try.underlying23 (by kernel_rfl) (fun n cs x h hl => each_write Try.underlying88 rfl rfl rfl rfl rfl rfl h hl) g5
  obtain ⟨s6, e6, _⟩ := DataW.trod_bool Try.underlying4 g6
  obtain ⟨s7, e7, _, b7⟩ := DataW.trod_string Try.underlying9 g7
  simp only [List.cons.injEq, and_true] at e0 e1 e2 e3 e6 e7
  subst e0 e1 e2 e3 e4 e5 e6 e7
  exact ⟨⟨s0, s1, s2, s3, rs, ws, s6, s7⟩, ra, wa, rc, wc, rfl, ⟨rl, rf, wl, wf, b7, ⟨rr, wr⟩⟩⟩

set_option maxRecDepth 100000 in
theorem open_txn {v : Value} {d : DataW H} {p : List MemPlace} (hv : Value.okWide Try.prog W .any base 25 v) (h : DataW.Trod enc Try.prog W 0 (fun _ => true) true 25 v d p) :
    ∃ (t : Tx) (ra wa : Option Addr) (rc wc : Nat), v = .agg #[.int .i64 t.id, .int .i64 t.st, .int .i64 t.snap, .int .i64 t.cs, .slice ra t.rs.length rc, .slice wa t.ws.length wc, .bool t.out, .string t.nm] ∧ TArg W t ra wa := by
  obtain ⟨cs, rfl, hsz⟩ := okWide_struct Try.underlying25 hv
  obtain ⟨c0, c1, c2, c3, c4, c5, c6, c7, rfl⟩ := array8 (hsz.trans (by kernel_rfl : Try.prog.cellsOf 25 = 8))
  obtain ⟨fuel, hf⟩ := h
  obtain ⟨t, ra, wa, rc, wc, e, ha⟩ := each_txn hf
  refine ⟨t, ra, wa, rc, wc, ?_, ha⟩
  simp only [txV, List.cons.injEq, and_true] at e
  obtain ⟨e0, e1, e2, e3, e4, e5, e6, e7⟩ := e
  rw [e0, e1, e2, e3, e4, e5, e6, e7]
end
end Go.Proofs.Ytebcfdomjlikoaa
