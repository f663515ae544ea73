/- Arguments: ranges, writes and rows of them: what they are. -/
import Derived.Test.YtmijppfppigjcaaGreatProg
import Derived.WalkKit
import Derived.Test.YtmijppfppigjcaaGreatPd01
import Derived.WalkSpells
import Derived.WalkLawsBesides
import Derived.Deep.QuietTactic
import Derived.BigQuiet
import Derived.Deep.RegionHeld3
import Derived.Deep.DrawnRows
import Derived.Deep.AppendLies
import Derived.Lib.SmallJoins
import Derived.Deep.Strs
import Derived.ProofKit
import Derived.OpenShut
import Derived.ShutString
import Derived.ChangeOld
import Derived.Test.YtmijppfppigjcaaGreatPd02
import Derived.Test.YtmijppfppigjcaaGreatPd03
import Derived.Sort.OwnSorted
import Derived.Lib.RowBridge
import Derived.Test.YtmijppfppigjcaaGreatPd04
import Derived.Test.YtmijppfppigjcaaGreatPd10
import Derived.Test.YtmijppfppigjcaaGreatPd05
import Derived.Test.YtmijppfppigjcaaGreatPd26
import Derived.Test.YtmijppfppigjcaaGreatPd31
import Derived.Deep.SlicePairs
import Derived.Test.YtmijppfppigjcaaGreatPd32
import Derived.Test.YtmijppfppigjcaaGreatPd33
namespace Go.Proofs.YtmijppfppigjcaaGreat
open Go.ChangeShapes Go.WideShapes Go.ChangeAt Go.RowKit Go.Deep
open KM

theorem laidOutT : laidOutB Tryz.prog = true := by kernel_rfl
theorem ownT : ownKnob Tryz.prog.godebug = none := by kernel_rfl

section
variable {H : Type} {enc : TypeId × Value → H} {W : World} {base : Nat}

theorem open_rows {α : Type} [Inhabited α] (E : Enc α) (ok : α → Prop) {t e : TypeId} (ht : Tryz.prog.underlying t = some (.slice e)) (hc : Tryz.prog.cellsOf e = E.size)
  (each : ∀ n cs x, DataW.trod enc Tryz.prog W 0 (fun _ => true) true n e cs = some x → cs.length = E.size → ∃ y, cs = E.enc y ∧ ok y)
  {fuel : Nat} {v : Value} {y : DataW H × List MemPlace} (h : DataW.trod enc Tryz.prog W 0 (fun _ => true) true fuel t [v] = some y) :
  ∃ (xs : List α) (a : Option Addr) (c : Nat), v = .slice a xs.length c ∧ xs.length ≤ maxLen ∧ (∀ x ∈ xs, ok x) ∧ GRow E W a xs := by
 rcases open_slice ht h with ⟨hcs, _⟩ | ⟨a, len, cap, m, n, D, Pl, hcs, _, hl, hm, hmm, _, hx⟩
 ·cases hcs
  exact ⟨[], none, 0, rfl, by simp, by simp, GRow.nil _ _⟩
 ·cases hcs
  simp only [if_true] at hmm
  subst hmm
  have ea : ∀ i, i < m → ∃ y : α, ok y ∧ ∀ k, k < E.size → W.cell? (a.add (i * E.size + k)) = (E.enc y)[k]? := fun i hi => by
   obtain ⟨cs', h1, h2⟩ := hx i hi
   rw [hc] at h1
   obtain ⟨_, hlen, hcell⟩ := World.cells?_some h1
   obtain ⟨y, rfl, hok⟩ := each n cs' _ h2 hlen
   refine ⟨y, hok, fun k hk => ?_⟩
   have := hcell k (by omega)
   rw [add_add] at this
   exact this
  obtain ⟨f, hf⟩ := choose_lt ea
  refine ⟨(List.range len).map f, some a, m, by simp, by simp; omega, ?_, ?_⟩
  ·intro x hx
   obtain ⟨i, hi, rfl⟩ := List.mem_map.1 hx
   exact (hf i (by have := List.mem_range.1 hi; omega)).1
  ·intro h0
   have h0' : 0 < len := by simpa using h0
   obtain ⟨b, off, spot⟩ := a
   have hc0 := (hf 0 (by omega)).2 0 E.pos
   have hsome : ∃ v, W.cell? ((⟨b, off, spot⟩ : Addr).add (0 * E.size + 0)) = some v := by
    rw [hc0]
    exact ⟨_, List.getElem?_eq_getElem (by rw [E.len]; exact E.pos)⟩
   obtain ⟨v0, hv0⟩ := hsome
   have hspot : spot = none := by simpa [Addr.add] using World.cell?_spot hv0
   subst hspot
   refine ⟨b, off, rfl, by simpa [Addr.add] using World.block_lt_of_cell? W _ hv0, fun j hj i hi => ?_⟩
   have hj' : j < len := by simpa using hj
   have := (hf j (by omega)).2 i hi
   rw [Addr.add_lit] at this
   rw [Nat.add_assoc, this]
   simp

set_option maxRecDepth 100000 in
theorem each_version {T n : Nat} {cs : List Value} {x : DataW H × List MemPlace} {f0 f1 f2 f3 : Field} (ht : Tryz.prog.underlying T = some (.struct #[f0, f1, f2, f3])) (h0 : f0.type = 9) (h1 : f1.type = 9) (h2 : f2.type = 4) (h3 : f3.type = 3) (o0 : f0.offset = 0) (o1 : f1.offset = 1) (o2 : f2.offset = 2) (o3 : f3.offset = 3)
  (h : DataW.trod enc Tryz.prog W 0 (fun _ => true) true n T cs = some x) (hl : cs.length = 4) : ∃ y : Vr, cs = encV.enc y ∧ (y.1.size ≤ maxLen ∧ y.2.1.size ≤ maxLen) := by
 obtain ⟨y0, y1, y2, y3, m, _, _, g0, g1, g2, g3⟩ := Go.Joins.trod_struct4 ht h
 match cs, hl with
 | [c0, c1, c2, c3], _ =>
  rw [h0, o0, show Tryz.prog.cellsOf 9 = 1 by kernel_rfl] at g0
  rw [h1, o1, show Tryz.prog.cellsOf 9 = 1 by kernel_rfl] at g1
  rw [h2, o2, show Tryz.prog.cellsOf 4 = 1 by kernel_rfl] at g2
  rw [h3, o3, show Tryz.prog.cellsOf 3 = 1 by kernel_rfl] at g3
  simp only [List.drop_zero, List.take_succ_cons, List.take_zero, List.drop_succ_cons] at g0 g1 g2 g3
  obtain ⟨s0, e0, _, b0⟩ := DataW.trod_string Tryz.underlying9 g0
  obtain ⟨s1, e1, _, b1⟩ := DataW.trod_string Tryz.underlying9 g1
  obtain ⟨s2, e2, _⟩ := DataW.trod_bool Tryz.underlying4 g2
  obtain ⟨s3, e3, _⟩ := DataW.trod_int Tryz.underlying3 g3
  simp only [List.cons.injEq, and_true] at e0 e1 e2 e3
  subst e0 e1 e2 e3
  exact ⟨(s0, s1, s2, s3), rfl, b0, b1⟩

end
end Go.Proofs.YtmijppfppigjcaaGreat

namespace Go.Proofs.YtmijppfppigjcaaGreat
open Go.ChangeShapes Go.WideShapes Go.ChangeAt Go.RowKit Go.Deep
open KM

section
variable {H : Type} {enc : TypeId × Value → H} {W : World} {base : Nat}

set_option maxRecDepth 100000 in
theorem each_range {T n : Nat} {cs : List Value} {x : DataW H × List MemPlace} {f0 f1 : Field} (ht : Tryz.prog.underlying T = some (.struct #[f0, f1])) (h0 : f0.type = 9) (h1 : f1.type = 9) (o0 : f0.offset = 0) (o1 : f1.offset = 1)
  (h : DataW.trod enc Tryz.prog W 0 (fun _ => true) true n T cs = some x) (hl : cs.length = 2) : ∃ y : Rg, cs = encR.enc y ∧ (y.1.size ≤ maxLen ∧ y.2.size ≤ maxLen) := by
 obtain ⟨y0, y1, m, _, _, g0, g1⟩ := trod_struct2 ht h
 match cs, hl with
 | [c0, c1], _ =>
  rw [h0, o0, show Tryz.prog.cellsOf 9 = 1 by kernel_rfl] at g0
  rw [h1, o1, show Tryz.prog.cellsOf 9 = 1 by kernel_rfl] at g1
  simp only [List.drop_zero, List.take_succ_cons, List.take_zero, List.drop_succ_cons] at g0 g1
  obtain ⟨s0, e0, _, b0⟩ := DataW.trod_string Tryz.underlying9 g0
  obtain ⟨s1, e1, _, b1⟩ := DataW.trod_string Tryz.underlying9 g1
  simp only [List.cons.injEq, and_true] at e0 e1
  subst e0 e1
  exact ⟨(s0, s1), rfl, b0, b1⟩

set_option maxRecDepth 100000 in
theorem each_write {T n : Nat} {cs : List Value} {x : DataW H × List MemPlace} {f0 f1 f2 : Field} (ht : Tryz.prog.underlying T = some (.struct #[f0, f1, f2])) (h0 : f0.type = 9) (h1 : f1.type = 9) (h2 : f2.type = 4) (o0 : f0.offset = 0) (o1 : f1.offset = 1) (o2 : f2.offset = 2)
  (h : DataW.trod enc Tryz.prog W 0 (fun _ => true) true n T cs = some x) (hl : cs.length = 3) : ∃ y : Wt, cs = encW.enc y ∧ (y.1.size ≤ maxLen ∧ y.2.1.size ≤ maxLen) := by
 obtain ⟨y0, y1, y2, m, _, _, g0, g1, g2⟩ := trod_struct3 ht h
 match cs, hl with
 | [c0, c1, c2], _ =>
  rw [h0, o0, show Tryz.prog.cellsOf 9 = 1 by kernel_rfl] at g0
  rw [h1, o1, show Tryz.prog.cellsOf 9 = 1 by kernel_rfl] at g1
  rw [h2, o2, show Tryz.prog.cellsOf 4 = 1 by kernel_rfl] at g2
  simp only [List.drop_zero, List.take_succ_cons, List.take_zero, List.drop_succ_cons] at g0 g1 g2
  obtain ⟨s0, e0, _, b0⟩ := DataW.trod_string Tryz.underlying9 g0
  obtain ⟨s1, e1, _, b1⟩ := DataW.trod_string Tryz.underlying9 g1
  obtain ⟨s2, e2, _⟩ := DataW.trod_bool Tryz.underlying4 g2
  simp only [List.cons.injEq, and_true] at e0 e1 e2
  subst e0 e1 e2
  exact ⟨(s0, s1, s2), rfl, b0, b1⟩

end
end Go.Proofs.YtmijppfppigjcaaGreat

namespace Go.Proofs.YtmijppfppigjcaaGreat
open Go.ChangeShapes Go.WideShapes Go.ChangeAt Go.RowKit Go.Deep
open KM

theorem array8 {α : Type} {cs : Array α} (h : cs.size = 8) : ∃ c0 c1 c2 c3 c4 c5 c6 c7, cs = #[c0, c1, c2, c3, c4, c5, c6, c7] := by
 obtain ⟨l⟩ := cs
 match l, h with
 | [c0, c1, c2, c3, c4, c5, c6, c7], _ => exact ⟨c0, c1, c2, c3, c4, c5, c6, c7, rfl⟩

section
variable {H : Type} {enc : TypeId × Value → H} {W : World} {base : Nat}

theorem trod8 {P : Program} {w : World} {b : Nat} {spare : Nat → Bool} {held : Bool} {T : TypeId} {f0 f1 f2 f3 f4 f5 f6 f7 : Field} {fuel : Nat} {cs : List Value} {x : DataW H × List MemPlace} (ht : P.underlying T = some (.struct #[f0, f1, f2, f3, f4, f5, f6, f7])) (h : DataW.trod enc P w b spare held fuel T cs = some x) :
  ∃ y0 y1 y2 y3 y4 y5 y6 y7 n, DataW.trod enc P w b spare held n f0.type ((cs.drop f0.offset).take (P.cellsOf f0.type)) = some y0 ∧ DataW.trod enc P w b spare held n f1.type ((cs.drop f1.offset).take (P.cellsOf f1.type)) = some y1 ∧ DataW.trod enc P w b spare held n f2.type ((cs.drop f2.offset).take (P.cellsOf f2.type)) = some y2 ∧ DataW.trod enc P w b spare held n f3.type ((cs.drop f3.offset).take (P.cellsOf f3.type)) = some y3 ∧ DataW.trod enc P w b spare held n f4.type ((cs.drop f4.offset).take (P.cellsOf f4.type)) = some y4 ∧ DataW.trod enc P w b spare held n f5.type ((cs.drop f5.offset).take (P.cellsOf f5.type)) = some y5 ∧ DataW.trod enc P w b spare held n f6.type ((cs.drop f6.offset).take (P.cellsOf f6.type)) = some y6 ∧ DataW.trod enc P w b spare held n f7.type ((cs.drop f7.offset).take (P.cellsOf f7.type)) = some y7 := by
 obtain ⟨xs, n, _, rfl, hl, hlen, hf⟩ := DataW.trod_struct ht h
 match xs, hlen with
 | [y0, y1, y2, y3, y4, y5, y6, y7], _ => exact ⟨y0, y1, y2, y3, y4, y5, y6, y7, n, by simpa using hf 0 f0 rfl, by simpa using hf 1 f1 rfl, by simpa using hf 2 f2 rfl, by simpa using hf 3 f3 rfl, by simpa using hf 4 f4 rfl, by simpa using hf 5 f5 rfl, by simpa using hf 6 f6 rfl, by simpa using hf 7 f7 rfl⟩

set_option maxRecDepth 100000 in
set_option maxHeartbeats 1000000 in
theorem each_txn {n : Nat} {c0 c1 c2 c3 c4 c5 c6 c7 : Value} {x : DataW H × List MemPlace}
  (h : DataW.trod enc Tryz.prog W 0 (fun _ => true) true n 81 [c0, c1, c2, c3, c4, c5, c6, c7] = some x) : ∃ (t : Tx) (ra wa : Option Addr) (rc wc : Nat), [c0, c1, c2, c3, c4, c5, c6, c7] = txV t ra rc wa wc ∧ TArg W t ra wa := by
 obtain ⟨y0, y1, y2, y3, y4, y5, y6, y7, m, g0, g1, g2, g3, g4, g5, g6, g7⟩ := trod8 Tryz.underlying81 h
 simp only [show Tryz.prog.cellsOf 3 = 1 by kernel_rfl, show Tryz.prog.cellsOf 4 = 1 by kernel_rfl, show Tryz.prog.cellsOf 9 = 1 by kernel_rfl, show Tryz.prog.cellsOf 78 = 1 by kernel_rfl, show Tryz.prog.cellsOf 79 = 1 by kernel_rfl, List.drop_zero, List.take_succ_cons, List.take_zero, List.drop_succ_cons] at g0 g1 g2 g3 g4 g5 g6 g7
 obtain ⟨s0, e0, _⟩ := DataW.trod_int Tryz.underlying3 g0
 obtain ⟨s1, e1, _⟩ := DataW.trod_int Tryz.underlying3 g1
 obtain ⟨s2, e2, _⟩ := DataW.trod_int Tryz.underlying3 g2
 obtain ⟨s3, e3, _⟩ := DataW.trod_int Tryz.underlying3 g3
 obtain ⟨rs, ra, rc, e4, rl, rf, rr⟩ := open_rows encR (fun x => x.1.size ≤ maxLen ∧ x.2.size ≤ maxLen) Tryz.underlying78 (by kernel_rfl) (fun n cs x h hl => each_range Tryz.underlying144 rfl rfl rfl rfl h hl) g4
 obtain ⟨ws, wa, wc, e5, wl, wf, wr⟩ := open_rows encW (fun x => x.1.size ≤ maxLen ∧ x.2.1.size ≤ maxLen) Tryz.underlying79 (by kernel_rfl) (fun n cs x h hl => each_write Tryz.underlying147 rfl rfl rfl rfl rfl rfl h hl) g5
 obtain ⟨s6, e6, _⟩ := DataW.trod_bool Tryz.underlying4 g6
 obtain ⟨s7, e7, _, b7⟩ := DataW.trod_string Tryz.underlying9 g7
 simp only [List.cons.injEq, and_true] at e0 e1 e2 e3 e6 e7
 subst e0 e1 e2 e3 e4 e5 e6 e7
 exact ⟨⟨s0, s1, s2, s3, rs, ws, s6, s7⟩, ra, wa, rc, wc, rfl, ⟨rl, rf, wl, wf, b7, ⟨rr, wr⟩⟩⟩

end
end Go.Proofs.YtmijppfppigjcaaGreat

namespace Go.Proofs.YtmijppfppigjcaaGreat
open Go.ChangeShapes Go.WideShapes Go.ChangeAt Go.RowKit Go.Deep
open KM

theorem list8 {α : Type} {cs : List α} (h : cs.length = 8) : ∃ c0 c1 c2 c3 c4 c5 c6 c7, cs = [c0, c1, c2, c3, c4, c5, c6, c7] := by
 obtain ⟨c0, c1, c2, c3, c4, c5, c6, c7, e⟩ := array8 (cs := cs.toArray) (by simpa using h)
 exact ⟨c0, c1, c2, c3, c4, c5, c6, c7, by simpa using congrArg Array.toList e⟩
section
variable {H : Type} {enc : TypeId × Value → H} {W : World} {base : Nat}
end

end Go.Proofs.YtmijppfppigjcaaGreat

namespace Go.Proofs.YtmijppfppigjcaaGreat
open Go.ChangeShapes Go.WideShapes Go.ChangeAt Go.RowKit Go.Deep
open KM

section
variable {H : Type} {enc : TypeId × Value → H} {W : World} {base : Nat}

theorem trod5 {P : Program} {w : World} {b : Nat} {spare : Nat → Bool} {held : Bool} {T : TypeId} {f0 f1 f2 f3 f4 : Field} {fuel : Nat} {cs : List Value} {x : DataW H × List MemPlace} (ht : P.underlying T = some (.struct #[f0, f1, f2, f3, f4])) (h : DataW.trod enc P w b spare held fuel T cs = some x) :
  ∃ y0 y1 y2 y3 y4 n, DataW.trod enc P w b spare held n f0.type ((cs.drop f0.offset).take (P.cellsOf f0.type)) = some y0 ∧ DataW.trod enc P w b spare held n f1.type ((cs.drop f1.offset).take (P.cellsOf f1.type)) = some y1 ∧ DataW.trod enc P w b spare held n f2.type ((cs.drop f2.offset).take (P.cellsOf f2.type)) = some y2 ∧ DataW.trod enc P w b spare held n f3.type ((cs.drop f3.offset).take (P.cellsOf f3.type)) = some y3 ∧ DataW.trod enc P w b spare held n f4.type ((cs.drop f4.offset).take (P.cellsOf f4.type)) = some y4 := by
 obtain ⟨xs, n, _, rfl, hl, hlen, hf⟩ := DataW.trod_struct ht h
 match xs, hlen with
 | [y0, y1, y2, y3, y4], _ => exact ⟨y0, y1, y2, y3, y4, n, by simpa using hf 0 f0 rfl, by simpa using hf 1 f1 rfl, by simpa using hf 2 f2 rfl, by simpa using hf 3 f3 rfl, by simpa using hf 4 f4 rfl⟩

set_option maxRecDepth 100000 in
set_option maxHeartbeats 1000000 in
theorem each_base {n : Nat} {c0 c1 c2 c3 c4 : Value} {x : DataW H × List MemPlace}
  (h : DataW.trod enc Tryz.prog W 0 (fun _ => true) true n 25 [c0, c1, c2, c3, c4] = some x) : ∃ b : Bb, [c0, c1, c2, c3, c4] = [.slice b.va b.vs.length b.vc, .slice b.pa b.ps.length b.pc, .slice b.qa b.qs.length b.qc, .int .i64 b.cs, .int .i64 b.nx] ∧ BArg W b := by
 obtain ⟨y0, y1, y2, y3, y4, m, g0, g1, g2, g3, g4⟩ := trod5 Tryz.underlying25 h
 simp only [show Tryz.prog.cellsOf 3 = 1 by kernel_rfl, show Tryz.prog.cellsOf 22 = 1 by kernel_rfl, show Tryz.prog.cellsOf 23 = 1 by kernel_rfl, List.drop_zero, List.take_succ_cons, List.take_zero, List.drop_succ_cons] at g0 g1 g2 g3 g4
 obtain ⟨vs, va, vc, e0, vl, vf, vr⟩ := open_rows encV (fun x => x.1.size ≤ maxLen ∧ x.2.1.size ≤ maxLen) Tryz.underlying22 (by kernel_rfl) (fun n cs x h hl => each_version Tryz.underlying188 rfl rfl rfl rfl rfl rfl rfl rfl h hl) g0
 letI : Inhabited Ta := ⟨someTa⟩
 have el : ∀ n cs x, DataW.trod enc Tryz.prog W 0 (fun _ => true) true n 81 cs = some x → cs.length = encT.size → ∃ y, cs = encT.enc y ∧ TArg W y.t y.ra y.wa := fun n cs x h hl => by
  obtain ⟨c0, c1, c2, c3, c4, c5, c6, c7, rfl⟩ := list8 hl
  obtain ⟨t, ra, wa, rc, wc, e, ha⟩ := each_txn h
  exact ⟨⟨t, ra, rc, wa, wc⟩, e, ha⟩
 obtain ⟨ps, pa, pc, e1, p1, p2, p3⟩ := open_rows encT (fun x => TArg W x.t x.ra x.wa) Tryz.underlying23 (by kernel_rfl) el g1
 obtain ⟨qs, qa, qc, e2, q1, q2, q3⟩ := open_rows encT (fun x => TArg W x.t x.ra x.wa) Tryz.underlying23 (by kernel_rfl) el g2
 obtain ⟨s3, e3, _⟩ := DataW.trod_int Tryz.underlying3 g3
 obtain ⟨s4, e4, _⟩ := DataW.trod_int Tryz.underlying3 g4
 simp only [List.cons.injEq, and_true] at e3 e4
 subst e0 e1 e2 e3 e4
 exact ⟨⟨vs, ps, qs, s3, s4, va, vc, pa, pc, qa, qc⟩, rfl, ⟨vl, vf, vr, ⟨p1, p2, p3⟩, ⟨q1, q2, q3⟩⟩⟩

end

end Go.Proofs.YtmijppfppigjcaaGreat

namespace Go.Proofs.YtmijppfppigjcaaGreat
open Go.ChangeShapes Go.WideShapes Go.ChangeAt Go.RowKit Go.Deep
open KM

section
variable {H : Type} {enc : TypeId × Value → H} {W : World} {base : Nat}

theorem trod2E {P : Program} {w : World} {b : Nat} {spare : Nat → Bool} {held : Bool} {T : TypeId} {f0 f1 : Field} {fuel : Nat} {cs : List Value} {x : DataW H × List MemPlace} (ht : P.underlying T = some (.struct #[f0, f1])) (h : DataW.trod enc P w b spare held fuel T cs = some x) :
  ∃ y0 y1 n, DataW.trod enc P w b spare held n f0.type ((cs.drop f0.offset).take (P.cellsOf f0.type)) = some y0 ∧ DataW.trod enc P w b spare held n f1.type ((cs.drop f1.offset).take (P.cellsOf f1.type)) = some y1 := by
 obtain ⟨xs, n, _, rfl, hl, hlen, hf⟩ := DataW.trod_struct ht h
 match xs, hlen with
 | [y0, y1], _ => exact ⟨y0, y1, n, by simpa using hf 0 f0 rfl, by simpa using hf 1 f1 rfl⟩

set_option maxRecDepth 100000 in
set_option maxHeartbeats 1000000 in
theorem each_engine {n : Nat} {c0 c1 c2 c3 c4 c5 : Value} {x : DataW H × List MemPlace}
  (h : DataW.trod enc Tryz.prog W 0 (fun _ => true) true n 27 [c0, c1, c2, c3, c4, c5] = some x) : ∃ e : En, [c0, c1, c2, c3, c4, c5] = [.slice e.b.va e.b.vs.length e.b.vc, .slice e.b.pa e.b.ps.length e.b.pc, .slice e.b.qa e.b.qs.length e.b.qc, .int .i64 e.b.cs, .int .i64 e.b.nx, .slice e.oa e.os.length e.oc] ∧ EnArg W e := by
 obtain ⟨y0, y1, m, g0, g1⟩ := trod2E Tryz.underlying27 h
 simp only [show Tryz.prog.cellsOf 25 = 5 by kernel_rfl, show Tryz.prog.cellsOf 23 = 1 by kernel_rfl, List.drop_zero, List.take_succ_cons, List.take_zero, List.drop_succ_cons] at g0 g1
 obtain ⟨b, e4, hb⟩ := each_base g0
 letI : Inhabited Ta := ⟨someTa⟩
 have el : ∀ n cs x, DataW.trod enc Tryz.prog W 0 (fun _ => true) true n 81 cs = some x → cs.length = encT.size → ∃ y, cs = encT.enc y ∧ TArg W y.t y.ra y.wa := fun n cs x h hl => by
  obtain ⟨c0, c1, c2, c3, c4, c5, c6, c7, rfl⟩ := list8 hl
  obtain ⟨t, ra, wa, rc, wc, e, ha⟩ := each_txn h
  exact ⟨⟨t, ra, rc, wa, wc⟩, e, ha⟩
 obtain ⟨os, oa, oc, e1, p1, p2, p3⟩ := open_rows encT (fun x => TArg W x.t x.ra x.wa) Tryz.underlying23 (by kernel_rfl) el g1
 simp only [List.cons.injEq, and_true] at e4
 obtain ⟨k0, k1, k2, k3, k4⟩ := e4
 subst e1 k0 k1 k2 k3 k4
 exact ⟨⟨b, os, oa, oc⟩, rfl, ⟨hb, ⟨p1, p2, p3⟩⟩⟩

end
end Go.Proofs.YtmijppfppigjcaaGreat

namespace Go.Proofs.YtmijppfppigjcaaGreat
open Go.ChangeShapes Go.WideShapes Go.ChangeAt Go.RowKit Go.Deep

def strOf : Value → ByteArray
 | .string s => s
 | _ => ByteArray.empty
def numOf : Value → Int
 | .int _ n => n
 | _ => 0

section
variable {H : Type} {enc : TypeId × Value → H} {W : World} {base : Nat}

theorem open_texts {fuel : Nat} {v : Value} {y : DataW H × List MemPlace} (h : DataW.trod enc Tryz.prog W 0 (fun _ => true) true fuel 28 [v] = some y) :
  ∃ (ss : List ByteArray) (a : Option Addr) (c : Nat), v = .slice a ss.length c ∧ ss.length ≤ 9223372036854775807 ∧ (∀ s ∈ ss, s.size ≤ 9223372036854775807) ∧ SRow W a ss := by
 rcases open_slice1 Tryz.underlying28 (by kernel_rfl) h with ⟨hcs, _⟩ | ⟨a, len, cap, m, n, V, D, Pl, hcs, _, hl, hm, hmm, _, hx⟩
 ·cases hcs
  exact ⟨[], none, 0, rfl, by simp, by simp, SRow.nil _ _⟩
 ·cases hcs
  simp only [if_true] at hmm
  subst hmm
  unfold maxLen at hm
  have each : ∀ i, i < m → ∃ s : ByteArray, V i = .string s ∧ s.size ≤ 9223372036854775807 := fun i hi => by
   obtain ⟨s, h1, _, h3⟩ := DataW.trod_string Tryz.underlying9 (hx i hi).2
   simp only [List.cons.injEq, and_true] at h1
   unfold maxLen at h3
   exact ⟨s, h1, by omega⟩
  refine ⟨(List.range len).map fun i => strOf (V i), some a, m, by simp, by simp; omega, ?_, ?_⟩
  ·intro s hs
   obtain ⟨i, hi, rfl⟩ := List.mem_map.1 hs
   obtain ⟨s, h1, h2⟩ := each i (by have := List.mem_range.1 hi; omega)
   rw [h1]; exact h2
  ·intro h0
   have h0' : 0 < len := by simpa using h0
   obtain ⟨b, off, spot⟩ := a
   have hc0 := (hx 0 (by omega)).1
   have hspot : spot = none := by simpa [Addr.add] using World.cell?_spot hc0
   subst hspot
   refine ⟨b, off, rfl, by simpa [Addr.add] using World.block_lt_of_cell? W _ hc0, fun j hj => ?_⟩
   have hj' : j < len := by simpa using hj
   have hcj := (hx j (by omega)).1
   rw [Addr.add_lit] at hcj
   obtain ⟨s, h1, _⟩ := each j (by omega)
   rw [hcj, h1]
   simp [strOf, h1]

theorem open_puts {fuel : Nat} {v : Value} {y : DataW H × List MemPlace} (h : DataW.trod enc Tryz.prog W 0 (fun _ => true) true fuel 29 [v] = some y) :
  ∃ (ps : List Wr) (a : Option Addr) (c : Nat), v = .slice a ps.length c ∧ ps.length ≤ 9223372036854775807 ∧ (∀ p ∈ ps, p.2.size ≤ 9223372036854775807) ∧ PRow W a ps := by
 rcases open_slice_pairs Tryz.underlying29 Tryz.underlying141 (by kernel_rfl) rfl rfl (by kernel_rfl) (by kernel_rfl) h with ⟨hcs, _⟩ | ⟨a, len, cap, m, n, V0, V1, D0, D1, P0, P1, hcs, _, hl, hm, hmm, _, hx⟩
 ·cases hcs
  exact ⟨[], none, 0, rfl, by simp, by simp, PRow.nil _ _⟩
 ·cases hcs
  simp only [if_true] at hmm
  subst hmm
  unfold maxLen at hm
  have each : ∀ i, i < m → ∃ (x : Int) (s : ByteArray), V0 i = .int .i64 x ∧ V1 i = .string s ∧ s.size ≤ 9223372036854775807 := fun i hi => by
   obtain ⟨x, h1, _, _⟩ := DataW.trod_int Tryz.underlying3 (hx i hi).2.2.1
   obtain ⟨s, h2, _, h3⟩ := DataW.trod_string Tryz.underlying9 (hx i hi).2.2.2
   simp only [List.cons.injEq, and_true] at h1 h2
   unfold maxLen at h3
   exact ⟨x, s, h1, h2, by omega⟩
  refine ⟨(List.range len).map fun i => (numOf (V0 i), strOf (V1 i)), some a, m, by simp, by simp; omega, ?_, ?_⟩
  ·intro p hp
   obtain ⟨i, hi, rfl⟩ := List.mem_map.1 hp
   obtain ⟨x, s, _, h1, h2⟩ := each i (by have := List.mem_range.1 hi; omega)
   show (strOf (V1 i)).size ≤ _
   rw [h1]; exact h2
  ·intro h0
   have h0' : 0 < len := by simpa using h0
   obtain ⟨b, off, spot⟩ := a
   have hc0 := (hx 0 (by omega)).1
   have hspot : spot = none := by simpa [Addr.add] using World.cell?_spot hc0
   subst hspot
   refine ⟨b, off, rfl, by simpa [Addr.add] using World.block_lt_of_cell? W _ hc0, fun j hj => ?_⟩
   have hj' : j < len := by simpa using hj
   have hcj := (hx j (by omega)).1
   have hck := (hx j (by omega)).2.1
   rw [Addr.add_lit] at hcj hck
   obtain ⟨x, s, h1, h2, _⟩ := each j (by omega)
   refine ⟨?_, ?_⟩
   ·rw [hcj, h1]
    simp [numOf, h1]
   ·rw [show off + j * 2 + 1 = off + (j * 2 + 1) by omega, hck, h2]
    simp [strOf, h2]

end
end Go.Proofs.YtmijppfppigjcaaGreat

namespace Go.Proofs.YtmijppfppigjcaaGreat
open Go.ChangeShapes Go.WideShapes Go.ChangeAt Go.RowKit Go.Deep
open KM

section
variable {H : Type} {enc : TypeId × Value → H} {W : World} {base : Nat}

set_option maxRecDepth 100000 in
set_option maxHeartbeats 1000000 in
theorem each_disk {n : Nat} {c0 c1 : Value} {x : DataW H × List MemPlace}
  (h : DataW.trod enc Tryz.prog W 0 (fun _ => true) true n 31 [c0, c1] = some x) : ∃ d : Dk, [c0, c1] = [.slice d.sa d.ss.length d.sc, .slice d.pa d.ps.length d.pc] ∧ DArg W d := by
 obtain ⟨y0, y1, m, g0, g1⟩ := trod2E Tryz.underlying31 h
 simp only [show Tryz.prog.cellsOf 28 = 1 by kernel_rfl, show Tryz.prog.cellsOf 29 = 1 by kernel_rfl, List.drop_zero, List.take_succ_cons, List.take_zero, List.drop_succ_cons] at g0 g1
 obtain ⟨ss, a1, k1, rfl, hn, hl, hs⟩ := open_texts g0
 obtain ⟨ps, a2, k2, rfl, hm, hlp, hp⟩ := open_puts g1
 exact ⟨⟨ss, ps, a1, k1, a2, k2⟩, rfl, ⟨hn, hl, hm, hlp, ⟨hs, hp⟩⟩⟩

end
end Go.Proofs.YtmijppfppigjcaaGreat

namespace Go.Proofs.YtmijppfppigjcaaGreat
open Go.ChangeShapes Go.WideShapes Go.ChangeAt Go.RowKit Go.Deep
open KM

theorem array11W {α : Type} {cs : Array α} (h : cs.size = 11) : ∃ c0 c1 c2 c3 c4 c5 c6 c7 c8 c9 c10, cs = #[c0, c1, c2, c3, c4, c5, c6, c7, c8, c9, c10] := by
 obtain ⟨l⟩ := cs
 match l, h with
 | [c0, c1, c2, c3, c4, c5, c6, c7, c8, c9, c10], _ => exact ⟨c0, c1, c2, c3, c4, c5, c6, c7, c8, c9, c10, rfl⟩
theorem list1W {α : Type} {cs : List α} (h : cs.length = 1) : ∃ c0, cs = [c0] := by
 match cs, h with
 | [c0], _ => exact ⟨c0, rfl⟩

section
variable {H : Type} {enc : TypeId × Value → H} {W : World} {base : Nat}

theorem trod4W {P : Program} {w : World} {b : Nat} {spare : Nat → Bool} {held : Bool} {T : TypeId} {f0 f1 f2 f3 : Field} {fuel : Nat} {cs : List Value} {x : DataW H × List MemPlace} (ht : P.underlying T = some (.struct #[f0, f1, f2, f3])) (h : DataW.trod enc P w b spare held fuel T cs = some x) :
  ∃ y0 y1 y2 y3 n, DataW.trod enc P w b spare held n f0.type ((cs.drop f0.offset).take (P.cellsOf f0.type)) = some y0 ∧ DataW.trod enc P w b spare held n f1.type ((cs.drop f1.offset).take (P.cellsOf f1.type)) = some y1 ∧ DataW.trod enc P w b spare held n f2.type ((cs.drop f2.offset).take (P.cellsOf f2.type)) = some y2 ∧ DataW.trod enc P w b spare held n f3.type ((cs.drop f3.offset).take (P.cellsOf f3.type)) = some y3 := by
 obtain ⟨xs, n, _, rfl, hl, hlen, hf⟩ := DataW.trod_struct ht h
 match xs, hlen with
 | [y0, y1, y2, y3], _ => exact ⟨y0, y1, y2, y3, n, by simpa using hf 0 f0 rfl, by simpa using hf 1 f1 rfl, by simpa using hf 2 f2 rfl, by simpa using hf 3 f3 rfl⟩

set_option maxRecDepth 100000 in
set_option maxHeartbeats 1000000 in
theorem each_store {n : Nat} {c0 c1 c2 c3 c4 c5 c6 c7 : Value} {x : DataW H × List MemPlace}
  (h : DataW.trod enc Tryz.prog W 0 (fun _ => true) true n 33 [c0, c1, c2, c3, c4, c5, c6, c7] = some x) : ∃ s : St, [c0, c1, c2, c3, c4, c5, c6, c7] = [.slice s.e.b.va s.e.b.vs.length s.e.b.vc, .slice s.e.b.pa s.e.b.ps.length s.e.b.pc, .slice s.e.b.qa s.e.b.qs.length s.e.b.qc, .int .i64 s.e.b.cs, .int .i64 s.e.b.nx, .slice s.e.oa s.e.os.length s.e.oc, .slice s.d.sa s.d.ss.length s.d.sc, .slice s.d.pa s.d.ps.length s.d.pc] ∧ StArg W s := by
 obtain ⟨y0, y1, m, g0, g1⟩ := trod2E Tryz.underlying33 h
 simp only [show Tryz.prog.cellsOf 27 = 6 by kernel_rfl, show Tryz.prog.cellsOf 31 = 2 by kernel_rfl, List.drop_zero, List.take_succ_cons, List.take_zero, List.drop_succ_cons] at g0 g1
 obtain ⟨e, he, hea⟩ := each_engine g0
 obtain ⟨k, hk, hka⟩ := each_disk g1
 simp only [List.cons.injEq, and_true] at he hk
 obtain ⟨e0, e1, e2, e3, e4, e5⟩ := he
 obtain ⟨e6, e7⟩ := hk
 subst e0 e1 e2 e3 e4 e5 e6 e7
 exact ⟨⟨e, k⟩, rfl, ⟨hea, hka⟩⟩

set_option maxRecDepth 100000 in
set_option maxHeartbeats 1000000 in
theorem open_world {v : Value} {d : DataW H} {p : List MemPlace} (hv : Value.okWide Tryz.prog W .any base 36 v) (h : DataW.Trod enc Tryz.prog W 0 (fun _ => true) true 36 v d p) :
  ∃ x : Wd, v = .agg #[.slice x.s.e.b.va x.s.e.b.vs.length x.s.e.b.vc, .slice x.s.e.b.pa x.s.e.b.ps.length x.s.e.b.pc, .slice x.s.e.b.qa x.s.e.b.qs.length x.s.e.b.qc, .int .i64 x.s.e.b.cs, .int .i64 x.s.e.b.nx, .slice x.s.e.oa x.s.e.os.length x.s.e.oc, .slice x.s.d.sa x.s.d.ss.length x.s.d.sc, .slice x.s.d.pa x.s.d.ps.length x.s.d.pc, .slice x.pa x.ps.length x.pc, .slice x.ca x.cs.length x.cc, .slice x.da x.ds.length x.dc] ∧ WdArg W x := by
 obtain ⟨cs, rfl, hsz⟩ := okWide_struct Tryz.underlying36 hv
 obtain ⟨c0, c1, c2, c3, c4, c5, c6, c7, c8, c9, c10, rfl⟩ := array11W (hsz.trans (by kernel_rfl : Tryz.prog.cellsOf 36 = 11))
 obtain ⟨fuel, hf⟩ := h
 obtain ⟨y0, y1, y2, y3, m, g0, g1, g2, g3⟩ := trod4W Tryz.underlying36 hf
 simp only [show Tryz.prog.cellsOf 33 = 8 by kernel_rfl, show Tryz.prog.cellsOf 23 = 1 by kernel_rfl, show Tryz.prog.cellsOf 34 = 1 by kernel_rfl, show Tryz.prog.cellsOf 28 = 1 by kernel_rfl, List.drop_zero] at g0 g1 g2 g3
 obtain ⟨s, hs, hsa⟩ := each_store g0
 letI : Inhabited Ta := ⟨someTa⟩
 have el : ∀ n cs x, DataW.trod enc Tryz.prog W 0 (fun _ => true) true n 81 cs = some x → cs.length = encT.size → ∃ y, cs = encT.enc y ∧ TArg W y.t y.ra y.wa := fun n cs x h hl => by
  obtain ⟨c0, c1, c2, c3, c4, c5, c6, c7, rfl⟩ := list8 hl
  obtain ⟨t, ra, wa, rc, wc, e, ha⟩ := each_txn h
  exact ⟨⟨t, ra, rc, wa, wc⟩, e, ha⟩
 obtain ⟨ps, pa, pc, e1, p1, p2, p3⟩ := open_rows encT (fun x => TArg W x.t x.ra x.wa) Tryz.underlying23 (by kernel_rfl) el g1
 obtain ⟨is, ia, ic, e2, i1, i2, i3⟩ := open_rows encI (fun _ => True) Tryz.underlying34 (by kernel_rfl) (fun n cs x h hl => by
  obtain ⟨c0, rfl⟩ := list1W hl
  obtain ⟨s3, e3, _⟩ := DataW.trod_int Tryz.underlying3 h
  exact ⟨s3, e3, trivial⟩) g2
 obtain ⟨ds, da, dc, e3, d1, d2, d3⟩ := open_texts g3
 simp only [List.cons.injEq, and_true] at hs
 obtain ⟨k0, k1, k2, k3, k4, k5, k6, k7⟩ := hs
 subst e1 e2 e3 k0 k1 k2 k3 k4 k5 k6 k7
 exact ⟨⟨s, ps, pa, pc, is, ia, ic, ds, da, dc⟩, rfl, ⟨hsa, ⟨p1, p2, p3⟩, i1, i3, d1, d2, d3⟩⟩
end
end Go.Proofs.YtmijppfppigjcaaGreat
