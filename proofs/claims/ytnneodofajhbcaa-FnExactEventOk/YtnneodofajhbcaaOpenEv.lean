/- An argument that is an event: what it is. -/
import Derived.Test.YtnneodofajhbcaaOpen
namespace Go.Proofs.Ytnneodofajhbcaa
open Go.ChangeShapes Go.WideShapes Go.ChangeAt Go.RowKit Go.Deep
open KM

theorem array5 {α : Type} {cs : Array α} (h : cs.size = 5) : ∃ c0 c1 c2 c3 c4, cs = #[c0, c1, c2, c3, c4] := by
  obtain ⟨l⟩ := cs
  match l, h with
  | [c0, c1, c2, c3, c4], _ => exact ⟨c0, c1, c2, c3, c4, rfl⟩

section
variable {H : Type} {enc : TypeId × Value → H} {W : World} {base : Nat}

theorem trod5 {P : Program} {w : World} {b : Nat} {spare : Nat → Bool} {held : Bool} {T : TypeId} {f0 f1 f2 f3 f4 : Field} {fuel : Nat} {cs : List Value} {x : DataW H × List MemPlace} (ht : P.underlying T = some (.struct #[f0, f1, f2, f3, f4])) (h : DataW.trod enc P w b spare held fuel T cs = some x) :
    ∃ y0 y1 y2 y3 y4 n, DataW.trod enc P w b spare held n f0.type ((cs.drop f0.offset).take (P.cellsOf f0.type)) = some y0 ∧ DataW.trod enc P w b spare held n f1.type ((cs.drop f1.offset).take (P.cellsOf f1.type)) = some y1 ∧ DataW.trod enc P w b spare held n f2.type ((cs.drop f2.offset).take (P.cellsOf f2.type)) = some y2 ∧ DataW.trod enc P w b spare held n f3.type ((cs.drop f3.offset).take (P.cellsOf f3.type)) = some y3 ∧ DataW.trod enc P w b spare held n f4.type ((cs.drop f4.offset).take (P.cellsOf f4.type)) = some y4 := by
  obtain ⟨xs, n, _, rfl, hl, hlen, hf⟩ := DataW.trod_struct ht h
  match xs, hlen with
  | [y0, y1, y2, y3, y4], _ => exact ⟨y0, y1, y2, y3, y4, n, by simpa using hf 0 f0 rfl, by simpa using hf 1 f1 rfl, by simpa using hf 2 f2 rfl, by simpa using hf 3 f3 rfl, by simpa using hf 4 f4 rfl⟩

set_option maxRecDepth 100000 in
set_option maxHeartbeats 1000000 in
theorem open_event {v : Value} {d : DataW H} {p : List MemPlace} (hv : Value.okWide Try.prog W .any base 24 v) (h : DataW.Trod enc Try.prog W 0 (fun _ => true) true 24 v d p) :
    ∃ (k q : Int) (s u : ByteArray) (xs : List Int) (ka : Option Addr) (kc : Nat), v = .agg #[.int .i64 k, .int .i64 q, .string s, .string u, .slice ka xs.length kc] ∧ s.size ≤ maxLen ∧ u.size ≤ maxLen ∧ xs.length ≤ maxLen ∧ GRow encI W ka xs := by
  obtain ⟨cs, rfl, hsz⟩ := okWide_struct Try.underlying24 hv
  obtain ⟨c0, c1, c2, c3, c4, rfl⟩ := array5 (hsz.trans (by kernel_rfl : Try.prog.cellsOf 24 = 5))
  obtain ⟨fuel, hf⟩ := h
  have hf2 : ∃ y, DataW.trod enc Try.prog W 0 (fun _ => true) true fuel 24 [c0, c1, c2, c3, c4] = some y := ⟨_, hf⟩
  obtain ⟨y, hf3⟩ := hf2
  obtain ⟨y0, y1, y2, y3, y4, m, g0, g1, g2, g3, g4⟩ := trod5 Try.underlying24 hf3
  simp only [show Try.prog.cellsOf 3 = 1 by kernel_rfl, show Try.prog.cellsOf 9 = 1 by kernel_rfl, show Try.prog.cellsOf 22 = 1 by kernel_rfl, List.drop_zero, List.take_succ_cons, List.take_zero, List.drop_succ_cons] at g0 g1 g2 g3 g4
  obtain ⟨k, e0, _⟩ := DataW.trod_int Try.underlying3 g0
  obtain ⟨q, e1, _⟩ := DataW.trod_int Try.underlying3 g1
  obtain ⟨s, e2, _, b2⟩ := DataW.trod_string Try.underlying9 g2
  obtain ⟨u, e3, _, b3⟩ := DataW.trod_string Try.underlying9 g3
  have ei : ∀ n cs x, DataW.trod enc Try.prog W 0 (fun _ => true) true n 3 cs = some x → cs.length = encI.size → ∃ y, cs = encI.enc y ∧ True := fun n cs x h hl => by
    match cs, hl with
    | [c], _ =>
      obtain ⟨y, e, _⟩ := DataW.trod_int Try.underlying3 h
      exact ⟨y, e, trivial⟩
  obtain ⟨xs, ka, kc, e4, xl, _, xr⟩ := open_rows encI (fun _ => True) Try.underlying22 (by kernel_rfl) ei g4
  simp only [List.cons.injEq, and_true] at e0 e1 e2 e3
  subst e0 e1 e2 e3 e4
  exact ⟨k, q, s, u, xs, ka, kc, rfl, b2, b3, xl, xr⟩
end
end Go.Proofs.Ytnneodofajhbcaa
