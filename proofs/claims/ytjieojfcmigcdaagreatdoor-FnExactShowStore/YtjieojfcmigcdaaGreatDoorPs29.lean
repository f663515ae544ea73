/- A disk that is an argument: what it is. -/
import Derived.Test.YtjieojfcmigcdaaGreatDoorPs21
import Derived.Lib.SmallJoins
import Derived.Deep.SlicePairs
import Derived.ProofKit
import Derived.OpenShut
import Derived.ShutString
import Derived.ChangeOld
import Derived.Test.YtjieojfcmigcdaaGreatDoorPs28
import Derived.Test.YtjieojfcmigcdaaGreatDoorPs22
namespace Go.Proofs.YtjieojfcmigcdaaGreatDoor
open Go.ChangeShapes Go.WideShapes Go.ChangeAt Go.RowKit Go.Deep

def strOf : Value → ByteArray
 | .string s => s
 | _ => ByteArray.empty
def numOf : Value → Int
 | .int _ n => n
 | _ => 0

section
variable {H : Type} {enc : TypeId × Value → H} {W : World} {base : Nat}

theorem open_texts {fuel : Nat} {v : Value} {y : DataW H × List MemPlace} (h : DataW.trod enc Tryz.prog W 0 (fun _ => true) true fuel 28 [v] = some y) :
  ∃ (ss : List ByteArray) (a : Option Addr) (c : Nat), v = .slice a ss.length c ∧ ss.length ≤ 9223372036854775807 ∧ (∀ s ∈ ss, s.size ≤ 9223372036854775807) ∧ SRow W a ss := by
 rcases open_slice1 Tryz.underlying28 (by kernel_rfl) h with ⟨hcs, _⟩ | ⟨a, len, cap, m, n, V, D, Pl, hcs, _, hl, hm, hmm, _, hx⟩
 ·cases hcs
  exact ⟨[], none, 0, rfl, by simp, by simp, SRow.nil _ _⟩
 ·cases hcs
  simp only [if_true] at hmm
  subst hmm
  unfold maxLen at hm
  have each : ∀ i, i < m → ∃ s : ByteArray, V i = .string s ∧ s.size ≤ 9223372036854775807 := fun i hi => by
   obtain ⟨s, h1, _, h3⟩ := DataW.trod_string Tryz.underlying9 (hx i hi).2
   simp only [List.cons.injEq, and_true] at h1
   unfold maxLen at h3
   exact ⟨s, h1, by omega⟩
  refine ⟨(List.range len).map fun i => strOf (V i), some a, m, by simp, by simp; omega, ?_, ?_⟩
  ·intro s hs
   obtain ⟨i, hi, rfl⟩ := List.mem_map.1 hs
   obtain ⟨s, h1, h2⟩ := each i (by have := List.mem_range.1 hi; omega)
   rw [h1]; exact h2
  ·intro h0
   have h0' : 0 < len := by simpa using h0
   obtain ⟨b, off, spot⟩ := a
   have hc0 := (hx 0 (by omega)).1
   have hspot : spot = none := by simpa [Addr.add] using World.cell?_spot hc0
   subst hspot
   refine ⟨b, off, rfl, by simpa [Addr.add] using World.block_lt_of_cell? W _ hc0, fun j hj => ?_⟩
   have hj' : j < len := by simpa using hj
   have hcj := (hx j (by omega)).1
   rw [Addr.add_lit] at hcj
   obtain ⟨s, h1, _⟩ := each j (by omega)
   rw [hcj, h1]
   simp [strOf, h1]

theorem open_puts {fuel : Nat} {v : Value} {y : DataW H × List MemPlace} (h : DataW.trod enc Tryz.prog W 0 (fun _ => true) true fuel 29 [v] = some y) :
  ∃ (ps : List Wr) (a : Option Addr) (c : Nat), v = .slice a ps.length c ∧ ps.length ≤ 9223372036854775807 ∧ (∀ p ∈ ps, p.2.size ≤ 9223372036854775807) ∧ PRow W a ps := by
 rcases open_slice_pairs Tryz.underlying29 Tryz.underlying122 (by kernel_rfl) rfl rfl (by kernel_rfl) (by kernel_rfl) h with ⟨hcs, _⟩ | ⟨a, len, cap, m, n, V0, V1, D0, D1, P0, P1, hcs, _, hl, hm, hmm, _, hx⟩
 ·cases hcs
  exact ⟨[], none, 0, rfl, by simp, by simp, PRow.nil _ _⟩
 ·cases hcs
  simp only [if_true] at hmm
  subst hmm
  unfold maxLen at hm
  have each : ∀ i, i < m → ∃ (x : Int) (s : ByteArray), V0 i = .int .i64 x ∧ V1 i = .string s ∧ s.size ≤ 9223372036854775807 := fun i hi => by
   obtain ⟨x, h1, _, _⟩ := DataW.trod_int Tryz.underlying3 (hx i hi).2.2.1
   obtain ⟨s, h2, _, h3⟩ := DataW.trod_string Tryz.underlying9 (hx i hi).2.2.2
   simp only [List.cons.injEq, and_true] at h1 h2
   unfold maxLen at h3
   exact ⟨x, s, h1, h2, by omega⟩
  refine ⟨(List.range len).map fun i => (numOf (V0 i), strOf (V1 i)), some a, m, by simp, by simp; omega, ?_, ?_⟩
  ·intro p hp
   obtain ⟨i, hi, rfl⟩ := List.mem_map.1 hp
   obtain ⟨x, s, _, h1, h2⟩ := each i (by have := List.mem_range.1 hi; omega)
   show (strOf (V1 i)).size ≤ _
   rw [h1]; exact h2
  ·intro h0
   have h0' : 0 < len := by simpa using h0
   obtain ⟨b, off, spot⟩ := a
   have hc0 := (hx 0 (by omega)).1
   have hspot : spot = none := by simpa [Addr.add] using World.cell?_spot hc0
   subst hspot
   refine ⟨b, off, rfl, by simpa [Addr.add] using World.block_lt_of_cell? W _ hc0, fun j hj => ?_⟩
   have hj' : j < len := by simpa using hj
   have hcj := (hx j (by omega)).1
   have hck := (hx j (by omega)).2.1
   rw [Addr.add_lit] at hcj hck
   obtain ⟨x, s, h1, h2, _⟩ := each j (by omega)
   refine ⟨?_, ?_⟩
   ·rw [hcj, h1]
    simp [numOf, h1]
   ·rw [show off + j * 2 + 1 = off + (j * 2 + 1) by omega, hck, h2]
    simp [strOf, h2]

end
end Go.Proofs.YtjieojfcmigcdaaGreatDoor

namespace Go.Proofs.YtjieojfcmigcdaaGreatDoor
open Go.ChangeShapes Go.WideShapes Go.ChangeAt Go.RowKit Go.Deep
open KM

theorem array8S {α : Type} {cs : Array α} (h : cs.size = 8) : ∃ c0 c1 c2 c3 c4 c5 c6 c7, cs = #[c0, c1, c2, c3, c4, c5, c6, c7] := by
 obtain ⟨l⟩ := cs
 match l, h with
 | [c0, c1, c2, c3, c4, c5, c6, c7], _ => exact ⟨c0, c1, c2, c3, c4, c5, c6, c7, rfl⟩

section
variable {H : Type} {enc : TypeId × Value → H} {W : World} {base : Nat}

set_option maxRecDepth 100000 in
set_option maxHeartbeats 1000000 in
theorem each_disk {n : Nat} {c0 c1 : Value} {x : DataW H × List MemPlace}
  (h : DataW.trod enc Tryz.prog W 0 (fun _ => true) true n 31 [c0, c1] = some x) : ∃ d : Dk, [c0, c1] = [.slice d.sa d.ss.length d.sc, .slice d.pa d.ps.length d.pc] ∧ DArg W d := by
 obtain ⟨y0, y1, m, g0, g1⟩ := trod2E Tryz.underlying31 h
 simp only [show Tryz.prog.cellsOf 28 = 1 by kernel_rfl, show Tryz.prog.cellsOf 29 = 1 by kernel_rfl, List.drop_zero, List.take_succ_cons, List.take_zero, List.drop_succ_cons] at g0 g1
 obtain ⟨ss, a1, k1, rfl, hn, hl, hs⟩ := open_texts g0
 obtain ⟨ps, a2, k2, rfl, hm, hlp, hp⟩ := open_puts g1
 exact ⟨⟨ss, ps, a1, k1, a2, k2⟩, rfl, ⟨hn, hl, hm, hlp, ⟨hs, hp⟩⟩⟩

set_option maxRecDepth 100000 in
set_option maxHeartbeats 1000000 in
theorem open_store {v : Value} {d : DataW H} {p : List MemPlace} (hv : Value.okWide Tryz.prog W .any base 33 v) (h : DataW.Trod enc Tryz.prog W 0 (fun _ => true) true 33 v d p) :
  ∃ s : St, v = .agg #[.slice s.e.b.va s.e.b.vs.length s.e.b.vc, .slice s.e.b.pa s.e.b.ps.length s.e.b.pc, .slice s.e.b.qa s.e.b.qs.length s.e.b.qc, .int .i64 s.e.b.cs, .int .i64 s.e.b.nx, .slice s.e.oa s.e.os.length s.e.oc, .slice s.d.sa s.d.ss.length s.d.sc, .slice s.d.pa s.d.ps.length s.d.pc] ∧ StArg W s ∧ (Lit.int .i64 s.e.b.cs).wf = true := by
 obtain ⟨cs, rfl, hsz⟩ := okWide_struct Tryz.underlying33 hv
 obtain ⟨c0, c1, c2, c3, c4, c5, c6, c7, rfl⟩ := array8S (hsz.trans (by kernel_rfl : Tryz.prog.cellsOf 33 = 8))
 obtain ⟨fuel, hf⟩ := h
 obtain ⟨y0, y1, m, g0, g1⟩ := trod2E Tryz.underlying33 hf
 simp only [show Tryz.prog.cellsOf 27 = 6 by kernel_rfl, show Tryz.prog.cellsOf 31 = 2 by kernel_rfl, List.drop_zero] at g0 g1
 obtain ⟨e, he, hea, k9⟩ := each_engine g0
 obtain ⟨k, hk, hka⟩ := each_disk g1
 refine ⟨⟨e, k⟩, ?_, ⟨hea, hka⟩, k9⟩
 simp only [List.cons.injEq, and_true] at he hk
 obtain ⟨e0, e1, e2, e3, e4, e5⟩ := he
 obtain ⟨e6, e7⟩ := hk
 rw [e0, e1, e2, e3, e4, e5, e6, e7]
end
end Go.Proofs.YtjieojfcmigcdaaGreatDoor
