/- An argument that is a store: what it is. -/
import Derived.Test.YtjieojfcmigcdaaGreatDoorPw33
import Derived.Test.YtjieojfcmigcdaaGreatDoorPw22
import Derived.Test.YtjieojfcmigcdaaGreatDoorPw28
namespace Go.Proofs.YtjieojfcmigcdaaGreatDoor
open Go.ChangeShapes Go.WideShapes Go.ChangeAt Go.RowKit Go.Deep
open KM

section
variable {H : Type} {enc : TypeId × Value → H} {W : World} {base : Nat}

set_option maxRecDepth 100000 in
set_option maxHeartbeats 1000000 in
theorem each_disk {n : Nat} {c0 c1 : Value} {x : DataW H × List MemPlace}
  (h : DataW.trod enc Tryz.prog W 0 (fun _ => true) true n 31 [c0, c1] = some x) : ∃ d : Dk, [c0, c1] = [.slice d.sa d.ss.length d.sc, .slice d.pa d.ps.length d.pc] ∧ DArg W d := by
 obtain ⟨y0, y1, m, g0, g1⟩ := trod2E Tryz.underlying31 h
 simp only [show Tryz.prog.cellsOf 28 = 1 by kernel_rfl, show Tryz.prog.cellsOf 29 = 1 by kernel_rfl, List.drop_zero, List.take_succ_cons, List.take_zero, List.drop_succ_cons] at g0 g1
 obtain ⟨ss, a1, k1, rfl, hn, hl, hs⟩ := open_texts g0
 obtain ⟨ps, a2, k2, rfl, hm, hlp, hp⟩ := open_puts g1
 exact ⟨⟨ss, ps, a1, k1, a2, k2⟩, rfl, ⟨hn, hl, hm, hlp, ⟨hs, hp⟩⟩⟩

end
end Go.Proofs.YtjieojfcmigcdaaGreatDoor

namespace Go.Proofs.YtjieojfcmigcdaaGreatDoor
open Go.ChangeShapes Go.WideShapes Go.ChangeAt Go.RowKit Go.Deep
open KM

theorem array11W {α : Type} {cs : Array α} (h : cs.size = 11) : ∃ c0 c1 c2 c3 c4 c5 c6 c7 c8 c9 c10, cs = #[c0, c1, c2, c3, c4, c5, c6, c7, c8, c9, c10] := by
 obtain ⟨l⟩ := cs
 match l, h with
 | [c0, c1, c2, c3, c4, c5, c6, c7, c8, c9, c10], _ => exact ⟨c0, c1, c2, c3, c4, c5, c6, c7, c8, c9, c10, rfl⟩
theorem list1W {α : Type} {cs : List α} (h : cs.length = 1) : ∃ c0, cs = [c0] := by
 match cs, h with
 | [c0], _ => exact ⟨c0, rfl⟩

section
variable {H : Type} {enc : TypeId × Value → H} {W : World} {base : Nat}

theorem trod4W {P : Program} {w : World} {b : Nat} {spare : Nat → Bool} {held : Bool} {T : TypeId} {f0 f1 f2 f3 : Field} {fuel : Nat} {cs : List Value} {x : DataW H × List MemPlace} (ht : P.underlying T = some (.struct #[f0, f1, f2, f3])) (h : DataW.trod enc P w b spare held fuel T cs = some x) :
  ∃ y0 y1 y2 y3 n, DataW.trod enc P w b spare held n f0.type ((cs.drop f0.offset).take (P.cellsOf f0.type)) = some y0 ∧ DataW.trod enc P w b spare held n f1.type ((cs.drop f1.offset).take (P.cellsOf f1.type)) = some y1 ∧ DataW.trod enc P w b spare held n f2.type ((cs.drop f2.offset).take (P.cellsOf f2.type)) = some y2 ∧ DataW.trod enc P w b spare held n f3.type ((cs.drop f3.offset).take (P.cellsOf f3.type)) = some y3 := by
 obtain ⟨xs, n, _, rfl, hl, hlen, hf⟩ := DataW.trod_struct ht h
 match xs, hlen with
 | [y0, y1, y2, y3], _ => exact ⟨y0, y1, y2, y3, n, by simpa using hf 0 f0 rfl, by simpa using hf 1 f1 rfl, by simpa using hf 2 f2 rfl, by simpa using hf 3 f3 rfl⟩

set_option maxRecDepth 100000 in
set_option maxHeartbeats 1000000 in
theorem each_store {n : Nat} {c0 c1 c2 c3 c4 c5 c6 c7 : Value} {x : DataW H × List MemPlace}
  (h : DataW.trod enc Tryz.prog W 0 (fun _ => true) true n 33 [c0, c1, c2, c3, c4, c5, c6, c7] = some x) : ∃ s : St, [c0, c1, c2, c3, c4, c5, c6, c7] = [.slice s.e.b.va s.e.b.vs.length s.e.b.vc, .slice s.e.b.pa s.e.b.ps.length s.e.b.pc, .slice s.e.b.qa s.e.b.qs.length s.e.b.qc, .int .i64 s.e.b.cs, .int .i64 s.e.b.nx, .slice s.e.oa s.e.os.length s.e.oc, .slice s.d.sa s.d.ss.length s.d.sc, .slice s.d.pa s.d.ps.length s.d.pc] ∧ StArg W s ∧ (Lit.int .i64 s.e.b.cs).wf = true := by
 obtain ⟨y0, y1, m, g0, g1⟩ := trod2E Tryz.underlying33 h
 simp only [show Tryz.prog.cellsOf 27 = 6 by kernel_rfl, show Tryz.prog.cellsOf 31 = 2 by kernel_rfl, List.drop_zero, List.take_succ_cons, List.take_zero, List.drop_succ_cons] at g0 g1
 obtain ⟨e, he, hea, k9⟩ := each_engine g0
 obtain ⟨k, hk, hka⟩ := each_disk g1
 simp only [List.cons.injEq, and_true] at he hk
 obtain ⟨e0, e1, e2, e3, e4, e5⟩ := he
 obtain ⟨e6, e7⟩ := hk
 subst e0 e1 e2 e3 e4 e5 e6 e7
 exact ⟨⟨e, k⟩, rfl, ⟨hea, hka⟩, k9⟩

set_option maxRecDepth 100000 in
set_option maxHeartbeats 1000000 in
theorem open_world {v : Value} {d : DataW H} {p : List MemPlace} (hv : Value.okWide Tryz.prog W .any base 52 v) (h : DataW.Trod enc Tryz.prog W 0 (fun _ => true) true 52 v d p) :
  ∃ x : Wd, v = .agg #[.slice x.s.e.b.va x.s.e.b.vs.length x.s.e.b.vc, .slice x.s.e.b.pa x.s.e.b.ps.length x.s.e.b.pc, .slice x.s.e.b.qa x.s.e.b.qs.length x.s.e.b.qc, .int .i64 x.s.e.b.cs, .int .i64 x.s.e.b.nx, .slice x.s.e.oa x.s.e.os.length x.s.e.oc, .slice x.s.d.sa x.s.d.ss.length x.s.d.sc, .slice x.s.d.pa x.s.d.ps.length x.s.d.pc, .slice x.pa x.ps.length x.pc, .slice x.ca x.cs.length x.cc, .slice x.da x.ds.length x.dc] ∧ WdArg W x ∧ (Lit.int .i64 x.s.e.b.cs).wf = true ∧ (∀ n ∈ x.cs, (Lit.int .i64 n).wf = true) := by
 obtain ⟨cs, rfl, hsz⟩ := okWide_struct Tryz.underlying52 hv
 obtain ⟨c0, c1, c2, c3, c4, c5, c6, c7, c8, c9, c10, rfl⟩ := array11W (hsz.trans (by kernel_rfl : Tryz.prog.cellsOf 52 = 11))
 obtain ⟨fuel, hf⟩ := h
 obtain ⟨y0, y1, y2, y3, m, g0, g1, g2, g3⟩ := trod4W Tryz.underlying52 hf
 simp only [show Tryz.prog.cellsOf 33 = 8 by kernel_rfl, show Tryz.prog.cellsOf 23 = 1 by kernel_rfl, show Tryz.prog.cellsOf 50 = 1 by kernel_rfl, show Tryz.prog.cellsOf 28 = 1 by kernel_rfl, List.drop_zero] at g0 g1 g2 g3
 obtain ⟨s, hs, hsa, k9⟩ := each_store g0
 letI : Inhabited Ta := ⟨someTa⟩
 have el : ∀ n cs x, DataW.trod enc Tryz.prog W 0 (fun _ => true) true n 112 cs = some x → cs.length = encT.size → ∃ y, cs = encT.enc y ∧ TArg W y.t y.ra y.wa := fun n cs x h hl => by
  obtain ⟨c0, c1, c2, c3, c4, c5, c6, c7, rfl⟩ := list8 hl
  obtain ⟨t, ra, wa, rc, wc, e, ha⟩ := each_txn h
  exact ⟨⟨t, ra, rc, wa, wc⟩, e, ha⟩
 obtain ⟨ps, pa, pc, e1, p1, p2, p3⟩ := open_rows encT (fun x => TArg W x.t x.ra x.wa) Tryz.underlying23 (by kernel_rfl) el g1
 obtain ⟨is, ia, ic, e2, i1, i2, i3⟩ := open_rows encI (fun n => (Lit.int .i64 n).wf = true) Tryz.underlying50 (by kernel_rfl) (fun n cs x h hl => by
  obtain ⟨c0, rfl⟩ := list1W hl
  obtain ⟨s3, e3, _, k3⟩ := DataW.trod_int Tryz.underlying3 h
  exact ⟨s3, e3, k3⟩) g2
 obtain ⟨ds, da, dc, e3, d1, d2, d3⟩ := open_texts g3
 simp only [List.cons.injEq, and_true] at hs
 obtain ⟨k0, k1, k2, k3, k4, k5, k6, k7⟩ := hs
 subst e1 e2 e3 k0 k1 k2 k3 k4 k5 k6 k7
 exact ⟨⟨s, ps, pa, pc, is, ia, ic, ds, da, dc⟩, rfl, ⟨hsa, ⟨p1, p2, p3⟩, i1, i3, d1, d2, d3⟩, k9, i2⟩
end
end Go.Proofs.YtjieojfcmigcdaaGreatDoor
