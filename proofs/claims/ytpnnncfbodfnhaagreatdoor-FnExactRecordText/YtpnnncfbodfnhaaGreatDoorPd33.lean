/- What placesOfKeys makes, and what Meets returns, on both sides. -/
import Derived.Test.YtpnnncfbodfnhaaGreatDoorProg
import Derived.WalkKit
import Derived.Test.YtpnnncfbodfnhaaGreatDoorPd01
import Derived.WalkSpells
import Derived.WalkLawsBesides
import Derived.Deep.QuietTactic
import Derived.BigQuiet
import Derived.Deep.RegionHeld3
import Derived.Deep.DrawnRows
import Derived.Deep.AppendLies
import Derived.Test.YtpnnncfbodfnhaaGreatDoorPd02
import Derived.Test.YtpnnncfbodfnhaaGreatDoorPd03
import Derived.Test.YtpnnncfbodfnhaaGreatDoorPd08
import Derived.Deep.RegionHeld
import Derived.Test.YtpnnncfbodfnhaaGreatDoorPd05
import Derived.Maps.OwnSet
import Derived.StringKeys
import Derived.Test.YtpnnncfbodfnhaaGreatDoorPd07
import Derived.Sort.OwnSorted
import Derived.Lib.RowBridge
import Derived.Test.YtpnnncfbodfnhaaGreatDoorPd09
import Derived.Test.YtpnnncfbodfnhaaGreatDoorPd32
import Derived.Test.YtpnnncfbodfnhaaGreatDoorPd04
import Derived.Test.YtpnnncfbodfnhaaGreatDoorPd11
import Derived.Test.YtpnnncfbodfnhaaGreatDoorPd12
namespace Go.Proofs.YtpnnncfbodfnhaaGreatDoor
open Go.RowKit Go.WideMaps Go.Maps
open KM
attribute [local go_sem ↓] Go.wp_at_zero Go.wp_at_succ

def kl (s : ByteArray) : Lit := .string s.data.toList
theorem kl_inj {s t : ByteArray} (h : kl s = kl t) : s = t := by
 unfold kl at h
 simp only [Lit.string.injEq] at h
 obtain ⟨⟨x⟩⟩ := s
 obtain ⟨⟨y⟩⟩ := t
 simp only at h
 subst h
 rfl
structure Inv (D0 : DataW Unit) (ys : List Wt) (k : Nat) (D : DataW Unit) : Prop where
 tidy : Tidy D
 has : ∀ s, Maps.has D (kl s) = true ↔ Maps.has D0 (kl s) = true ∧ ∀ j (hj : j < ys.length), j < k → ys[j].1 ≠ s
 le : Maps.size D ≤ Maps.size D0
 lt : Maps.size D < Maps.size D0 ↔ ∃ j, ∃ hj : j < ys.length, j < k ∧ Maps.has D0 (kl ys[j].1) = true
theorem Inv.step {D0 D : DataW Unit} {ys : List Wt} {k : Nat} (h : Inv D0 ys k D) (hk : k < ys.length) : Inv D0 ys (k + 1) (D.del (kl ys[k].1)) := by
 have hs := size_del (k := kl ys[k].1) h.tidy
 have hh := h.has ys[k].1
 refine ⟨h.tidy.del _, fun s => ?_, ?_, ?_⟩
 ·by_cases e : s = ys[k].1
  ·subst e
   rw [has_del_same]
   simp only [Bool.false_eq_true, false_iff, not_and]
   exact fun _ h2 => h2 k hk (by omega) rfl
  ·rw [has_del_other (fun h => e (kl_inj h)), h.has s]
   constructor
   ·rintro ⟨h1, h2⟩
    refine ⟨h1, fun j hj hjk => ?_⟩
    by_cases ej : j = k
    ·subst ej; exact fun e' => e e'.symm
    ·exact h2 j hj (by omega)
   ·rintro ⟨h1, h2⟩
    exact ⟨h1, fun j hj hjk => h2 j hj (by omega)⟩
 ·have := h.le; split at hs <;> omega
 ·by_cases hd : Maps.has D (kl ys[k].1) = true
  ·rw [if_pos hd] at hs
   have := h.le
   constructor
   ·intro _
    exact ⟨k, hk, by omega, (hh.1 hd).1⟩
   ·intro _; omega
  ·rw [if_neg hd] at hs
   rw [show Maps.size (D.del (kl ys[k].1)) = Maps.size D by omega, h.lt]
   constructor
   ·rintro ⟨j, hj, hjk, hx⟩
    exact ⟨j, hj, by omega, hx⟩
   ·rintro ⟨j, hj, hjk, hx⟩
    by_cases ej : j = k
    ·subst ej
     apply Classical.byContradiction
     intro hno
     exact hd (hh.2 ⟨hx, fun i hi hij e => hno ⟨i, hi, hij, by rw [e]; exact hx⟩⟩)
    ·exact ⟨j, hj, by omega, hx⟩
end Go.Proofs.YtpnnncfbodfnhaaGreatDoor

namespace Go.Proofs.YtpnnncfbodfnhaaGreatDoor
open Go.RowKit
open KM
attribute [local go_sem ↓] Go.wp_at_zero Go.wp_at_succ

end Go.Proofs.YtpnnncfbodfnhaaGreatDoor

namespace Go.Proofs.YtpnnncfbodfnhaaGreatDoor
open Go.ChangeShapes Go.WideShapes Go.ChangeAt Go.RowKit Go.Deep
open KM

theorem list8 {α : Type} {cs : List α} (h : cs.length = 8) : ∃ c0 c1 c2 c3 c4 c5 c6 c7, cs = [c0, c1, c2, c3, c4, c5, c6, c7] := by
 obtain ⟨c0, c1, c2, c3, c4, c5, c6, c7, e⟩ := array8 (cs := cs.toArray) (by simpa using h)
 exact ⟨c0, c1, c2, c3, c4, c5, c6, c7, by simpa using congrArg Array.toList e⟩
section
variable {H : Type} {enc : TypeId × Value → H} {W : World} {base : Nat}
end

end Go.Proofs.YtpnnncfbodfnhaaGreatDoor

namespace Go.Proofs.YtpnnncfbodfnhaaGreatDoor
open Go.ChangeShapes Go.WideShapes Go.ChangeAt Go.RowKit Go.Deep
open KM

section
variable {H : Type} {enc : TypeId × Value → H} {W : World} {base : Nat}

theorem trod5 {P : Program} {w : World} {b : Nat} {spare : Nat → Bool} {held : Bool} {T : TypeId} {f0 f1 f2 f3 f4 : Field} {fuel : Nat} {cs : List Value} {x : DataW H × List MemPlace} (ht : P.underlying T = some (.struct #[f0, f1, f2, f3, f4])) (h : DataW.trod enc P w b spare held fuel T cs = some x) :
  ∃ y0 y1 y2 y3 y4 n, DataW.trod enc P w b spare held n f0.type ((cs.drop f0.offset).take (P.cellsOf f0.type)) = some y0 ∧ DataW.trod enc P w b spare held n f1.type ((cs.drop f1.offset).take (P.cellsOf f1.type)) = some y1 ∧ DataW.trod enc P w b spare held n f2.type ((cs.drop f2.offset).take (P.cellsOf f2.type)) = some y2 ∧ DataW.trod enc P w b spare held n f3.type ((cs.drop f3.offset).take (P.cellsOf f3.type)) = some y3 ∧ DataW.trod enc P w b spare held n f4.type ((cs.drop f4.offset).take (P.cellsOf f4.type)) = some y4 := by
 obtain ⟨xs, n, _, rfl, hl, hlen, hf⟩ := DataW.trod_struct ht h
 match xs, hlen with
 | [y0, y1, y2, y3, y4], _ => exact ⟨y0, y1, y2, y3, y4, n, by simpa using hf 0 f0 rfl, by simpa using hf 1 f1 rfl, by simpa using hf 2 f2 rfl, by simpa using hf 3 f3 rfl, by simpa using hf 4 f4 rfl⟩

set_option maxRecDepth 100000 in
set_option maxHeartbeats 1000000 in
theorem each_base {n : Nat} {c0 c1 c2 c3 c4 : Value} {x : DataW H × List MemPlace}
  (h : DataW.trod enc Tryz.prog W 0 (fun _ => true) true n 29 [c0, c1, c2, c3, c4] = some x) : ∃ b : Bb, [c0, c1, c2, c3, c4] = [.slice b.va b.vs.length b.vc, .slice b.pa b.ps.length b.pc, .slice b.qa b.qs.length b.qc, .int .i64 b.cs, .int .i64 b.nx] ∧ BArg W b := by
 obtain ⟨y0, y1, y2, y3, y4, m, g0, g1, g2, g3, g4⟩ := trod5 Tryz.underlying29 h
 simp only [show Tryz.prog.cellsOf 3 = 1 by kernel_rfl, show Tryz.prog.cellsOf 26 = 1 by kernel_rfl, show Tryz.prog.cellsOf 27 = 1 by kernel_rfl, List.drop_zero, List.take_succ_cons, List.take_zero, List.drop_succ_cons] at g0 g1 g2 g3 g4
 obtain ⟨vs, va, vc, e0, vl, vf, vr⟩ := open_rows encV (fun x => x.1.size ≤ maxLen ∧ x.2.1.size ≤ maxLen) Tryz.underlying26 (by kernel_rfl) (fun n cs x h hl => each_version Tryz.underlying154 rfl rfl rfl rfl rfl rfl rfl rfl h hl) g0
 letI : Inhabited Ta := ⟨someTa⟩
 have el : ∀ n cs x, DataW.trod enc Tryz.prog W 0 (fun _ => true) true n 25 cs = some x → cs.length = encT.size → ∃ y, cs = encT.enc y ∧ TArg W y.t y.ra y.wa := fun n cs x h hl => by
  obtain ⟨c0, c1, c2, c3, c4, c5, c6, c7, rfl⟩ := list8 hl
  obtain ⟨t, ra, wa, rc, wc, e, ha⟩ := each_txn h
  exact ⟨⟨t, ra, rc, wa, wc⟩, e, ha⟩
 obtain ⟨ps, pa, pc, e1, p1, p2, p3⟩ := open_rows encT (fun x => TArg W x.t x.ra x.wa) Tryz.underlying27 (by kernel_rfl) el g1
 obtain ⟨qs, qa, qc, e2, q1, q2, q3⟩ := open_rows encT (fun x => TArg W x.t x.ra x.wa) Tryz.underlying27 (by kernel_rfl) el g2
 obtain ⟨s3, e3, _⟩ := DataW.trod_int Tryz.underlying3 g3
 obtain ⟨s4, e4, _⟩ := DataW.trod_int Tryz.underlying3 g4
 simp only [List.cons.injEq, and_true] at e3 e4
 subst e0 e1 e2 e3 e4
 exact ⟨⟨vs, ps, qs, s3, s4, va, vc, pa, pc, qa, qc⟩, rfl, ⟨vl, vf, vr, ⟨p1, p2, p3⟩, ⟨q1, q2, q3⟩⟩⟩

end

end Go.Proofs.YtpnnncfbodfnhaaGreatDoor

namespace Go.Proofs.YtpnnncfbodfnhaaGreatDoor
open Go.ChangeShapes Go.WideShapes Go.ChangeAt Go.RowKit Go.Deep
open KM

theorem array16 {α : Type} {cs : Array α} (h : cs.size = 16) : ∃ c0 c1 c2 c3 c4 c5 c6 c7 c8 c9 c10 c11 c12 c13 c14 c15, cs = #[c0, c1, c2, c3, c4, c5, c6, c7, c8, c9, c10, c11, c12, c13, c14, c15] := by
 obtain ⟨l⟩ := cs
 match l, h with
 | [c0, c1, c2, c3, c4, c5, c6, c7, c8, c9, c10, c11, c12, c13, c14, c15], _ => exact ⟨c0, c1, c2, c3, c4, c5, c6, c7, c8, c9, c10, c11, c12, c13, c14, c15, rfl⟩

section
variable {H : Type} {enc : TypeId × Value → H} {W : World} {base : Nat}

set_option maxRecDepth 100000 in
set_option maxHeartbeats 1000000 in
theorem each_record {n : Nat} {c0 c1 c2 c3 c4 c5 c6 c7 c8 c9 c10 c11 c12 c13 c14 c15 : Value} {x : DataW H × List MemPlace}
  (h : DataW.trod enc Tryz.prog W 0 (fun _ => true) true n 31 [c0, c1, c2, c3, c4, c5, c6, c7, c8, c9, c10, c11, c12, c13, c14, c15] = some x) : ∃ r : Rc, [c0, c1, c2, c3, c4, c5, c6, c7, c8, c9, c10, c11, c12, c13, c14, c15] = [.int .i64 r.k, .int .i64 r.t.t.id, .int .i64 r.t.t.st, .int .i64 r.t.t.snap, .int .i64 r.t.t.cs, .slice r.t.ra r.t.t.rs.length r.t.rc, .slice r.t.wa r.t.t.ws.length r.t.wc, .bool r.t.t.out, .string r.t.t.nm, .string r.nm, .bool r.yes, .slice r.b.va r.b.vs.length r.b.vc, .slice r.b.pa r.b.ps.length r.b.pc, .slice r.b.qa r.b.qs.length r.b.qc, .int .i64 r.b.cs, .int .i64 r.b.nx] ∧ RcArg W r := by
 obtain ⟨y0, y1, y2, y3, y4, m, g0, g1, g2, g3, g4⟩ := trod5 Tryz.underlying31 h
 simp only [show Tryz.prog.cellsOf 3 = 1 by kernel_rfl, show Tryz.prog.cellsOf 25 = 8 by kernel_rfl, show Tryz.prog.cellsOf 9 = 1 by kernel_rfl, show Tryz.prog.cellsOf 4 = 1 by kernel_rfl, show Tryz.prog.cellsOf 29 = 5 by kernel_rfl, List.drop_zero, List.take_succ_cons, List.take_zero, List.drop_succ_cons] at g0 g1 g2 g3 g4
 obtain ⟨s0, e0, _⟩ := DataW.trod_int Tryz.underlying3 g0
 obtain ⟨t, ra, wa, rc, wc, e1, ha⟩ := each_txn g1
 obtain ⟨s2, e2, _, b2⟩ := DataW.trod_string Tryz.underlying9 g2
 obtain ⟨s3, e3, _⟩ := DataW.trod_bool Tryz.underlying4 g3
 obtain ⟨b, e4, hb⟩ := each_base g4
 simp only [txV, List.cons.injEq, and_true] at e0 e1 e2 e3 e4
 obtain ⟨f0, f1, f2, f3, f4, f5, f6, f7⟩ := e1
 obtain ⟨k0, k1, k2, k3, k4⟩ := e4
 subst e0 e2 e3 f0 f1 f2 f3 f4 f5 f6 f7 k0 k1 k2 k3 k4
 exact ⟨⟨s0, ⟨t, ra, rc, wa, wc⟩, s2, s3, b⟩, rfl, ⟨ha, b2, hb⟩⟩

set_option maxRecDepth 100000 in
theorem open_record {v : Value} {d : DataW H} {p : List MemPlace} (hv : Value.okWide Tryz.prog W .any base 31 v) (h : DataW.Trod enc Tryz.prog W 0 (fun _ => true) true 31 v d p) :
  ∃ r : Rc, v = .agg #[.int .i64 r.k, .int .i64 r.t.t.id, .int .i64 r.t.t.st, .int .i64 r.t.t.snap, .int .i64 r.t.t.cs, .slice r.t.ra r.t.t.rs.length r.t.rc, .slice r.t.wa r.t.t.ws.length r.t.wc, .bool r.t.t.out, .string r.t.t.nm, .string r.nm, .bool r.yes, .slice r.b.va r.b.vs.length r.b.vc, .slice r.b.pa r.b.ps.length r.b.pc, .slice r.b.qa r.b.qs.length r.b.qc, .int .i64 r.b.cs, .int .i64 r.b.nx] ∧ RcArg W r := by
 obtain ⟨cs, rfl, hsz⟩ := okWide_struct Tryz.underlying31 hv
 obtain ⟨c0, c1, c2, c3, c4, c5, c6, c7, c8, c9, c10, c11, c12, c13, c14, c15, rfl⟩ := array16 (hsz.trans (by kernel_rfl : Tryz.prog.cellsOf 31 = 16))
 obtain ⟨fuel, hf⟩ := h
 obtain ⟨r, e, ha⟩ := each_record hf
 refine ⟨r, ?_, ha⟩
 simp only [List.cons.injEq, and_true] at e
 obtain ⟨e0, e1, e2, e3, e4, e5, e6, e7, e8, e9, e10, e11, e12, e13, e14, e15⟩ := e
 rw [e0, e1, e2, e3, e4, e5, e6, e7, e8, e9, e10, e11, e12, e13, e14, e15]
end
end Go.Proofs.YtpnnncfbodfnhaaGreatDoor
