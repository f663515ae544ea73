/- A store: how it lies, its size, its likeness. -/
import Derived.Test.YtmijppfppigjcaaGreatPd26
import Derived.Test.YtmijppfppigjcaaGreatPd31
import Derived.Test.YtmijppfppigjcaaGreatPd20
import Derived.Test.YtmijppfppigjcaaGreatPd19
import Derived.Deep.RegionHeld3
import Derived.Deep.Cut
import Derived.Deep.CutRange
namespace Go.Proofs.YtmijppfppigjcaaGreat
open Go.RowKit
open KM
attribute [local go_sem ↓] Go.wp_at_zero Go.wp_at_succ

structure Dk where
 ss : List ByteArray
 ps : List Wr
 sa : Option Addr
 sc : Nat
 pa : Option Addr
 pc : Nat
structure DRows (w : World) (d : Dk) : Prop where
 s : SRow w d.sa d.ss
 p : PRow w d.pa d.ps
theorem DRows.below {w w' : World} {d : Dk} (h : DRows w d) (hb : Below w.heap.size w w') : DRows w' d := ⟨h.s.below hb, h.p.below hb⟩
structure DArg (w : World) (d : Dk) : Prop where
 sl : d.ss.length ≤ 9223372036854775807
 st : ∀ s ∈ d.ss, s.size ≤ 9223372036854775807
 pl : d.ps.length ≤ 9223372036854775807
 pt : ∀ p ∈ d.ps, p.2.size ≤ 9223372036854775807
 rows : DRows w d
theorem DArg.below {w w' : World} {d : Dk} (h : DArg w d) (hb : Below w.heap.size w w') : DArg w' d := ⟨h.sl, h.st, h.pl, h.pt, h.rows.below hb⟩
structure DSame (d c : Dk) : Prop where
 s : c.ss = d.ss
 p : c.ps = d.ps
theorem DSame.trans {d c k : Dk} (h : DSame d c) (q : DSame c k) : DSame d k := ⟨q.s.trans h.s, q.p.trans h.p⟩
theorem DSame.symm {d c : Dk} (h : DSame d c) : DSame c d := ⟨h.s.symm, h.p.symm⟩
def DFit (d : Dk) : Prop := Fits d.ss d.ps
theorem DSame.fit {d c : Dk} (h : DSame d c) (hf : DFit d) : DFit c := by unfold DFit; rw [h.s, h.p]; exact hf
structure DLie (w : World) (lo hi : Nat) (d : Dk) : Prop where
 s : SOwn w lo (.slice d.sa d.ss.length d.sc) d.ss
 p : POwn w lo (.slice d.pa d.ps.length d.pc) d.ps
 su : ∀ g, (Value.slice d.sa d.ss.length d.sc).ownBlock = some g → g < hi
 pu : ∀ g, (Value.slice d.pa d.ps.length d.pc).ownBlock = some g → g < hi
theorem own_lo {w : World} {base e size n : Nat} {v : Value} {xs : List Value} (h : w.ownsRow base e size v n xs) (g : Nat) (hg : v.ownBlock = some g) : base ≤ g ∧ g < w.heap.size := by
 obtain ⟨_, h2⟩ := h
 rcases h2 with h2 | ⟨g', cap, cur, hv, hb, hh, _⟩
 ·rw [h2.1] at hg; simp [Value.ownBlock] at hg
 ·rw [hv] at hg
  simp [Value.ownBlock] at hg
  subst hg
  exact ⟨hb, (Array.getElem?_eq_some_iff.1 hh).1⟩
theorem DLie.rows {w : World} {lo hi : Nat} {d : Dk} (h : DLie w lo hi d) : DRows w d := ⟨h.s.srow, h.p.prow⟩
theorem DLie.below {w w' : World} {lo hi : Nat} {d : Dk} (h : DLie w lo hi d) (hb : Below w.heap.size w w') : DLie w' lo hi d := ⟨h.s.below hb, h.p.below hb, h.su, h.pu⟩
theorem DLie.set {w : World} {lo hi : Nat} {d : Dk} (h : DLie w lo hi d) {a : Addr} (ha : a.block < lo) (u : Value) : DLie (w.setCell a u) lo hi d := ⟨h.s.set ha u, h.p.set ha u, h.su, h.pu⟩
theorem DLie.mono {w : World} {lo hi lo' hi' : Nat} {d : Dk} (h : DLie w lo hi d) (k : lo' ≤ lo) (k' : hi ≤ hi') : DLie w lo' hi' d := ⟨h.s.mono k, h.p.mono k, fun g q => Nat.lt_of_lt_of_le (h.su g q) k', fun g q => Nat.lt_of_lt_of_le (h.pu g q) k'⟩
theorem DLie.zn {w w' : World} {lo hi l h : Nat} {d : Dk} (k : DLie w lo hi d) (hz : Zn l h w w') (hne : hi ≤ l ∨ h ≤ lo) : DLie w' lo hi d := by
 refine ⟨ownsZn k.s hz (fun g hg => ?_), ownsZn k.p hz (fun g hg => ?_), k.su, k.pu⟩
 ·have := k.su g hg; have := own_lo k.s g hg; omega
 ·have := k.pu g hg; have := own_lo k.p g hg; omega
theorem DLie.of {w : World} {lo : Nat} {a1 a2 : Option Addr} {c1 c2 : Nat} {ss : List ByteArray} {ps : List Wr} (h : DOwn w lo a1 c1 a2 c2 ss ps) : DLie w lo w.heap.size ⟨ss, ps, a1, c1, a2, c2⟩ :=
 ⟨h.s, h.p, fun g hg => (own_lo h.s g hg).2, fun g hg => (own_lo h.p g hg).2⟩
structure St where
 e : En
 d : Dk
structure StRows (w : World) (s : St) : Prop where
 e : EnRows w s.e
 d : DRows w s.d
theorem StRows.below {w w' : World} {s : St} (h : StRows w s) (hb : Below w.heap.size w w') : StRows w' s := ⟨h.e.below hb, h.d.below hb⟩
structure StArg (w : World) (s : St) : Prop where
 e : EnArg w s.e
 d : DArg w s.d
theorem StArg.below {w w' : World} {s : St} (h : StArg w s) (hb : Below w.heap.size w w') : StArg w' s := ⟨h.e.below hb, h.d.below hb⟩
theorem StArg.rows {w : World} {s : St} (h : StArg w s) : StRows w s := ⟨h.e.rows, h.d.rows⟩
structure StFit (s : St) : Prop where
 e : EnFit s.e
 d : DFit s.d
structure StSame (s c : St) : Prop where
 e : EnSame s.e c.e
 d : DSame s.d c.d
theorem StSame.fit {s c : St} (h : StSame s c) (hf : StFit s) : StFit c := ⟨h.e.fit hf.e, h.d.fit hf.d⟩
theorem StSame.trans {s c k : St} (h : StSame s c) (q : StSame c k) : StSame s k := ⟨h.e.trans q.e, h.d.trans q.d⟩
theorem StSame.symm {s c : St} (h : StSame s c) : StSame c s := ⟨h.e.symm, h.d.symm⟩
structure StLie (w : World) (lo hi : Nat) (s : St) : Prop where
 ex : ∃ m, lo ≤ m ∧ m ≤ hi ∧ EnLie w lo m s.e ∧ DLie w m hi s.d
theorem StLie.rows {w : World} {lo hi : Nat} {s : St} (h : StLie w lo hi s) : StRows w s := by
 obtain ⟨m, _, _, h1, h2⟩ := h.ex
 exact ⟨h1.rows, h2.rows⟩
theorem StLie.below {w w' : World} {lo hi : Nat} {s : St} (h : StLie w lo hi s) (hb : Below w.heap.size w w') : StLie w' lo hi s := by
 obtain ⟨m, a, b, h1, h2⟩ := h.ex
 exact ⟨m, a, b, h1.below hb, h2.below hb⟩
theorem StLie.set {w : World} {lo hi : Nat} {s : St} (h : StLie w lo hi s) {a : Addr} (ha : a.block < lo) (u : Value) : StLie (w.setCell a u) lo hi s := by
 obtain ⟨m, k1, k2, h1, h2⟩ := h.ex
 exact ⟨m, k1, k2, h1.set ha u, h2.set (by omega) u⟩
theorem StLie.mono {w : World} {lo hi lo' hi' : Nat} {s : St} (h : StLie w lo hi s) (k : lo' ≤ lo) (k' : hi ≤ hi') : StLie w lo' hi' s := by
 obtain ⟨m, k1, k2, h1, h2⟩ := h.ex
 exact ⟨m, by omega, by omega, h1.mono k (Nat.le_refl _), h2.mono (Nat.le_refl _) k'⟩
theorem StLie.zn {w w' : World} {lo hi l h : Nat} {s : St} (k : StLie w lo hi s) (hz : Zn l h w w') (hne : hi ≤ l ∨ h ≤ lo) : StLie w' lo hi s := by
 obtain ⟨m, k1, k2, h1, h2⟩ := k.ex
 exact ⟨m, k1, k2, h1.zn hz (by omega), h2.zn hz (by omega)⟩

set_option maxRecDepth 100000 in
set_option maxHeartbeats 2000000 in
theorem eqS0 (s c : St) (hs : StSame s c) (hf : StFit s) (w : World) (hp : StRows w s) (hq : StRows w c) :
  Calls Tryz.prog 19 #[.agg #[.slice s.e.b.va s.e.b.vs.length s.e.b.vc, .slice s.e.b.pa s.e.b.ps.length s.e.b.pc, .slice s.e.b.qa s.e.b.qs.length s.e.b.qc, .int .i64 s.e.b.cs, .int .i64 s.e.b.nx, .slice s.e.oa s.e.os.length s.e.oc, .slice s.d.sa s.d.ss.length s.d.sc, .slice s.d.pa s.d.ps.length s.d.pc], .agg #[.slice c.e.b.va s.e.b.vs.length c.e.b.vc, .slice c.e.b.pa s.e.b.ps.length c.e.b.pc, .slice c.e.b.qa s.e.b.qs.length c.e.b.qc, .int .i64 s.e.b.cs, .int .i64 s.e.b.nx, .slice c.e.oa s.e.os.length c.e.oc, .slice c.d.sa s.d.ss.length c.d.sc, .slice c.d.pa s.d.ps.length c.d.pc]] w fun ex w' => ex = .returned (.bool true) ∧ Below w.heap.size w w' := by
 have HP : Hid (StRows w s) := hp
 have HQ : Hid (StRows w c) := hq
 have HS : Hid (StSame s c) := hs
 have HF : Hid (StFit s) := hf
 clear hp hq hs hf
 have BA0 : Hid (Bx ((w.alloc (.cells #[.slice s.e.b.va s.e.b.vs.length s.e.b.vc, .slice s.e.b.pa s.e.b.ps.length s.e.b.pc, .slice s.e.b.qa s.e.b.qs.length s.e.b.qc, .int .i64 s.e.b.cs, .int .i64 s.e.b.nx, .slice s.e.oa s.e.os.length s.e.oc, .slice s.d.sa s.d.ss.length s.d.sc, .slice s.d.pa s.d.ps.length s.d.pc] 49)).alloc (.cells #[.slice c.e.b.va s.e.b.vs.length c.e.b.vc, .slice c.e.b.pa s.e.b.ps.length c.e.b.pc, .slice c.e.b.qa s.e.b.qs.length c.e.b.qc, .int .i64 s.e.b.cs, .int .i64 s.e.b.nx, .slice c.e.oa s.e.os.length c.e.oc, .slice c.d.sa s.d.ss.length c.d.sc, .slice c.d.pa s.d.ps.length c.d.pc] 49)) w.heap.size [.slice s.e.b.va s.e.b.vs.length s.e.b.vc, .slice s.e.b.pa s.e.b.ps.length s.e.b.pc, .slice s.e.b.qa s.e.b.qs.length s.e.b.qc, .int .i64 s.e.b.cs, .int .i64 s.e.b.nx, .slice s.e.oa s.e.os.length s.e.oc, .slice s.d.sa s.d.ss.length s.d.sc, .slice s.d.pa s.d.ps.length s.d.pc]) := (Bx.new w [.slice s.e.b.va s.e.b.vs.length s.e.b.vc, .slice s.e.b.pa s.e.b.ps.length s.e.b.pc, .slice s.e.b.qa s.e.b.qs.length s.e.b.qc, .int .i64 s.e.b.cs, .int .i64 s.e.b.nx, .slice s.e.oa s.e.os.length s.e.oc, .slice s.d.sa s.d.ss.length s.d.sc, .slice s.d.pa s.d.ps.length s.d.pc] 49).alloc _
 have BB0 : Hid (Bx ((w.alloc (.cells #[.slice s.e.b.va s.e.b.vs.length s.e.b.vc, .slice s.e.b.pa s.e.b.ps.length s.e.b.pc, .slice s.e.b.qa s.e.b.qs.length s.e.b.qc, .int .i64 s.e.b.cs, .int .i64 s.e.b.nx, .slice s.e.oa s.e.os.length s.e.oc, .slice s.d.sa s.d.ss.length s.d.sc, .slice s.d.pa s.d.ps.length s.d.pc] 49)).alloc (.cells #[.slice c.e.b.va s.e.b.vs.length c.e.b.vc, .slice c.e.b.pa s.e.b.ps.length c.e.b.pc, .slice c.e.b.qa s.e.b.qs.length c.e.b.qc, .int .i64 s.e.b.cs, .int .i64 s.e.b.nx, .slice c.e.oa s.e.os.length c.e.oc, .slice c.d.sa s.d.ss.length c.d.sc, .slice c.d.pa s.d.ps.length c.d.pc] 49)) (w.heap.size + 1) [.slice c.e.b.va s.e.b.vs.length c.e.b.vc, .slice c.e.b.pa s.e.b.ps.length c.e.b.pc, .slice c.e.b.qa s.e.b.qs.length c.e.b.qc, .int .i64 s.e.b.cs, .int .i64 s.e.b.nx, .slice c.e.oa s.e.os.length c.e.oc, .slice c.d.sa s.d.ss.length c.d.sc, .slice c.d.pa s.d.ps.length c.d.pc]) := by
  have h := Bx.new (w.alloc (.cells #[.slice s.e.b.va s.e.b.vs.length s.e.b.vc, .slice s.e.b.pa s.e.b.ps.length s.e.b.pc, .slice s.e.b.qa s.e.b.qs.length s.e.b.qc, .int .i64 s.e.b.cs, .int .i64 s.e.b.nx, .slice s.e.oa s.e.os.length s.e.oc, .slice s.d.sa s.d.ss.length s.d.sc, .slice s.d.pa s.d.ps.length s.d.pc] 49)) [.slice c.e.b.va s.e.b.vs.length c.e.b.vc, .slice c.e.b.pa s.e.b.ps.length c.e.b.pc, .slice c.e.b.qa s.e.b.qs.length c.e.b.qc, .int .i64 s.e.b.cs, .int .i64 s.e.b.nx, .slice c.e.oa s.e.os.length c.e.oc, .slice c.d.sa s.d.ss.length c.d.sc, .slice c.d.pa s.d.ps.length c.d.pc] 49
  rw [World.size_alloc] at h
  exact h
 have HB0 : Hid (Below w.heap.size w ((w.alloc (.cells #[.slice s.e.b.va s.e.b.vs.length s.e.b.vc, .slice s.e.b.pa s.e.b.ps.length s.e.b.pc, .slice s.e.b.qa s.e.b.qs.length s.e.b.qc, .int .i64 s.e.b.cs, .int .i64 s.e.b.nx, .slice s.e.oa s.e.os.length s.e.oc, .slice s.d.sa s.d.ss.length s.d.sc, .slice s.d.pa s.d.ps.length s.d.pc] 49)).alloc (.cells #[.slice c.e.b.va s.e.b.vs.length c.e.b.vc, .slice c.e.b.pa s.e.b.ps.length c.e.b.pc, .slice c.e.b.qa s.e.b.qs.length c.e.b.qc, .int .i64 s.e.b.cs, .int .i64 s.e.b.nx, .slice c.e.oa s.e.os.length c.e.oc, .slice c.d.sa s.d.ss.length c.d.sc, .slice c.d.pa s.d.ps.length c.d.pc] 49))) := ((belowRefl w).alloc (Nat.le_refl _) _).alloc (by simp) _
 have CB : Hid (∀ W : World, Below w.heap.size w W → Calls Tryz.prog 42 #[.agg #[.slice s.e.b.va s.e.b.vs.length s.e.b.vc, .slice s.e.b.pa s.e.b.ps.length s.e.b.pc, .slice s.e.b.qa s.e.b.qs.length s.e.b.qc, .int .i64 s.e.b.cs, .int .i64 s.e.b.nx, .slice s.e.oa s.e.os.length s.e.oc], .agg #[.slice c.e.b.va s.e.b.vs.length c.e.b.vc, .slice c.e.b.pa s.e.b.ps.length c.e.b.pc, .slice c.e.b.qa s.e.b.qs.length c.e.b.qc, .int .i64 s.e.b.cs, .int .i64 s.e.b.nx, .slice c.e.oa s.e.os.length c.e.oc]] W fun ex w' => ex = .returned (.bool true) ∧ Below W.heap.size W w') := fun W h => eqE0 s.e c.e HS.out.e HF.out.e W (HP.out.e.below h) (HQ.out.e.below h)
 have CO : Hid (∀ W : World, Below w.heap.size w W → Calls Tryz.prog 43 #[.agg #[.slice s.d.sa s.d.ss.length s.d.sc, .slice s.d.pa s.d.ps.length s.d.pc], .agg #[.slice c.d.sa s.d.ss.length c.d.sc, .slice c.d.pa s.d.ps.length c.d.pc]] W fun ex w' => ex = .returned (.bool true) ∧ Below W.heap.size W w') := fun W h => eq40 s.d.sa s.d.pa c.d.sa c.d.pa s.d.sc s.d.pc c.d.sc c.d.pc s.d.ss s.d.ps (Nat.le_trans HF.out.d.1 (by omega)) (Nat.le_trans HF.out.d.2.1 (by omega)) W (HP.out.d.s.below h) (HP.out.d.p.below h) (by have k := HQ.out.d.s; rw [HS.out.d.s] at k; exact k.below h) (by have k := HQ.out.d.p; rw [HS.out.d.p] at k; exact k.below h)
 clear HP HQ HS HF
 go_enter Tryz.func19, Tryz.ntmps19
 go_wp2_with fail
 refine (CB.out _ HB0.out).mono ?_
 rintro ex w1 ⟨rfl, hb1⟩
 have BA1 : Hid (Bx w1 w.heap.size [.slice s.e.b.va s.e.b.vs.length s.e.b.vc, .slice s.e.b.pa s.e.b.ps.length s.e.b.pc, .slice s.e.b.qa s.e.b.qs.length s.e.b.qc, .int .i64 s.e.b.cs, .int .i64 s.e.b.nx, .slice s.e.oa s.e.os.length s.e.oc, .slice s.d.sa s.d.ss.length s.d.sc, .slice s.d.pa s.d.ps.length s.d.pc]) := BA0.out.below hb1
 have BB1 : Hid (Bx w1 (w.heap.size + 1) [.slice c.e.b.va s.e.b.vs.length c.e.b.vc, .slice c.e.b.pa s.e.b.ps.length c.e.b.pc, .slice c.e.b.qa s.e.b.qs.length c.e.b.qc, .int .i64 s.e.b.cs, .int .i64 s.e.b.nx, .slice c.e.oa s.e.os.length c.e.oc, .slice c.d.sa s.d.ss.length c.d.sc, .slice c.d.pa s.d.ps.length c.d.pc]) := BB0.out.below hb1
 have HB1 : Hid (Below w.heap.size w w1) := HB0.out.trans (hb1.mono HB0.out.size)
 clear hb1 BA0 BB0 HB0
 have x6 := BA1.out.c6
 have y6 := BB1.out.c6
 have x7 := BA1.out.c7
 have y7 := BB1.out.c7
 go_wp2_with fail
 refine (CO.out _ HB1.out).mono ?_
 rintro ex w2 ⟨rfl, hb2⟩
 have HB2 : Hid (Below w.heap.size w w2) := HB1.out.trans (hb2.mono HB1.out.size)
 clear hb2
 go_wp2
 go_ret
 exact ⟨rfl, HB2.out⟩

end Go.Proofs.YtmijppfppigjcaaGreat

namespace Go.Proofs.YtmijppfppigjcaaGreat
open Go.RowKit
open KM
attribute [local go_sem ↓] Go.wp_at_zero Go.wp_at_succ

set_option maxRecDepth 100000 in
set_option maxHeartbeats 4000000 in
theorem toS (s : St) (hf : StFit s) (w : World) (hp : StRows w s) :
  Calls Tryz.prog 14 #[.agg #[.slice s.e.b.va s.e.b.vs.length s.e.b.vc, .slice s.e.b.pa s.e.b.ps.length s.e.b.pc, .slice s.e.b.qa s.e.b.qs.length s.e.b.qc, .int .i64 s.e.b.cs, .int .i64 s.e.b.nx, .slice s.e.oa s.e.os.length s.e.oc, .slice s.d.sa s.d.ss.length s.d.sc, .slice s.d.pa s.d.ps.length s.d.pc]] w fun ex w' => ∃ c : St, ex = .returned (.agg #[.slice c.e.b.va c.e.b.vs.length c.e.b.vc, .slice c.e.b.pa c.e.b.ps.length c.e.b.pc, .slice c.e.b.qa c.e.b.qs.length c.e.b.qc, .int .i64 c.e.b.cs, .int .i64 c.e.b.nx, .slice c.e.oa c.e.os.length c.e.oc, .slice c.d.sa c.d.ss.length c.d.sc, .slice c.d.pa c.d.ps.length c.d.pc]) ∧ StSame s c ∧ StLie w' w.heap.size w'.heap.size c ∧ Below w.heap.size w w' := by
 have HP : Hid (StRows w s) := hp
 have HF : Hid (StFit s) := hf
 clear hp hf
 have BA0 : Hid (Bx (((w.alloc (.cells #[.slice s.e.b.va s.e.b.vs.length s.e.b.vc, .slice s.e.b.pa s.e.b.ps.length s.e.b.pc, .slice s.e.b.qa s.e.b.qs.length s.e.b.qc, .int .i64 s.e.b.cs, .int .i64 s.e.b.nx, .slice s.e.oa s.e.os.length s.e.oc, .slice s.d.sa s.d.ss.length s.d.sc, .slice s.d.pa s.d.ps.length s.d.pc] 33)).alloc (.cells #[.slice none 0 0, .slice none 0 0, .slice none 0 0, .int .i64 0, .int .i64 0, .slice none 0 0, .slice none 0 0, .slice none 0 0] 49)).alloc (.cells #[.slice none 0 0, .slice none 0 0, .slice none 0 0, .int .i64 0, .int .i64 0, .slice none 0 0, .slice none 0 0, .slice none 0 0] 49)) w.heap.size [.slice s.e.b.va s.e.b.vs.length s.e.b.vc, .slice s.e.b.pa s.e.b.ps.length s.e.b.pc, .slice s.e.b.qa s.e.b.qs.length s.e.b.qc, .int .i64 s.e.b.cs, .int .i64 s.e.b.nx, .slice s.e.oa s.e.os.length s.e.oc, .slice s.d.sa s.d.ss.length s.d.sc, .slice s.d.pa s.d.ps.length s.d.pc]) := ((Bx.new w [.slice s.e.b.va s.e.b.vs.length s.e.b.vc, .slice s.e.b.pa s.e.b.ps.length s.e.b.pc, .slice s.e.b.qa s.e.b.qs.length s.e.b.qc, .int .i64 s.e.b.cs, .int .i64 s.e.b.nx, .slice s.e.oa s.e.os.length s.e.oc, .slice s.d.sa s.d.ss.length s.d.sc, .slice s.d.pa s.d.ps.length s.d.pc] 33).alloc _).alloc _
 have BR0 : Hid (Bx (((w.alloc (.cells #[.slice s.e.b.va s.e.b.vs.length s.e.b.vc, .slice s.e.b.pa s.e.b.ps.length s.e.b.pc, .slice s.e.b.qa s.e.b.qs.length s.e.b.qc, .int .i64 s.e.b.cs, .int .i64 s.e.b.nx, .slice s.e.oa s.e.os.length s.e.oc, .slice s.d.sa s.d.ss.length s.d.sc, .slice s.d.pa s.d.ps.length s.d.pc] 33)).alloc (.cells #[.slice none 0 0, .slice none 0 0, .slice none 0 0, .int .i64 0, .int .i64 0, .slice none 0 0, .slice none 0 0, .slice none 0 0] 49)).alloc (.cells #[.slice none 0 0, .slice none 0 0, .slice none 0 0, .int .i64 0, .int .i64 0, .slice none 0 0, .slice none 0 0, .slice none 0 0] 49)) (w.heap.size + 1) [.slice none 0 0, .slice none 0 0, .slice none 0 0, .int .i64 0, .int .i64 0, .slice none 0 0, .slice none 0 0, .slice none 0 0]) := by
  have h := (Bx.new (w.alloc (.cells #[.slice s.e.b.va s.e.b.vs.length s.e.b.vc, .slice s.e.b.pa s.e.b.ps.length s.e.b.pc, .slice s.e.b.qa s.e.b.qs.length s.e.b.qc, .int .i64 s.e.b.cs, .int .i64 s.e.b.nx, .slice s.e.oa s.e.os.length s.e.oc, .slice s.d.sa s.d.ss.length s.d.sc, .slice s.d.pa s.d.ps.length s.d.pc] 33)) [.slice none 0 0, .slice none 0 0, .slice none 0 0, .int .i64 0, .int .i64 0, .slice none 0 0, .slice none 0 0, .slice none 0 0] 49).alloc (.cells #[.slice none 0 0, .slice none 0 0, .slice none 0 0, .int .i64 0, .int .i64 0, .slice none 0 0, .slice none 0 0, .slice none 0 0] 49)
  rw [World.size_alloc] at h
  exact h
 have BO0 : Hid (Bx (((w.alloc (.cells #[.slice s.e.b.va s.e.b.vs.length s.e.b.vc, .slice s.e.b.pa s.e.b.ps.length s.e.b.pc, .slice s.e.b.qa s.e.b.qs.length s.e.b.qc, .int .i64 s.e.b.cs, .int .i64 s.e.b.nx, .slice s.e.oa s.e.os.length s.e.oc, .slice s.d.sa s.d.ss.length s.d.sc, .slice s.d.pa s.d.ps.length s.d.pc] 33)).alloc (.cells #[.slice none 0 0, .slice none 0 0, .slice none 0 0, .int .i64 0, .int .i64 0, .slice none 0 0, .slice none 0 0, .slice none 0 0] 49)).alloc (.cells #[.slice none 0 0, .slice none 0 0, .slice none 0 0, .int .i64 0, .int .i64 0, .slice none 0 0, .slice none 0 0, .slice none 0 0] 49)) (w.heap.size + 1 + 1) [.slice none 0 0, .slice none 0 0, .slice none 0 0, .int .i64 0, .int .i64 0, .slice none 0 0, .slice none 0 0, .slice none 0 0]) := by
  have h := Bx.new ((w.alloc (.cells #[.slice s.e.b.va s.e.b.vs.length s.e.b.vc, .slice s.e.b.pa s.e.b.ps.length s.e.b.pc, .slice s.e.b.qa s.e.b.qs.length s.e.b.qc, .int .i64 s.e.b.cs, .int .i64 s.e.b.nx, .slice s.e.oa s.e.os.length s.e.oc, .slice s.d.sa s.d.ss.length s.d.sc, .slice s.d.pa s.d.ps.length s.d.pc] 33)).alloc (.cells #[.slice none 0 0, .slice none 0 0, .slice none 0 0, .int .i64 0, .int .i64 0, .slice none 0 0, .slice none 0 0, .slice none 0 0] 49)) [.slice none 0 0, .slice none 0 0, .slice none 0 0, .int .i64 0, .int .i64 0, .slice none 0 0, .slice none 0 0, .slice none 0 0] 49
  rw [World.size_alloc, World.size_alloc] at h
  exact h
 have HB0 : Hid (Below w.heap.size w (((w.alloc (.cells #[.slice s.e.b.va s.e.b.vs.length s.e.b.vc, .slice s.e.b.pa s.e.b.ps.length s.e.b.pc, .slice s.e.b.qa s.e.b.qs.length s.e.b.qc, .int .i64 s.e.b.cs, .int .i64 s.e.b.nx, .slice s.e.oa s.e.os.length s.e.oc, .slice s.d.sa s.d.ss.length s.d.sc, .slice s.d.pa s.d.ps.length s.d.pc] 33)).alloc (.cells #[.slice none 0 0, .slice none 0 0, .slice none 0 0, .int .i64 0, .int .i64 0, .slice none 0 0, .slice none 0 0, .slice none 0 0] 49)).alloc (.cells #[.slice none 0 0, .slice none 0 0, .slice none 0 0, .int .i64 0, .int .i64 0, .slice none 0 0, .slice none 0 0, .slice none 0 0] 49))) := (((belowRefl w).alloc (Nat.le_refl _) _).alloc (by simp) _).alloc (by simp; omega) _
 have S0 : Hid ((((w.alloc (.cells #[.slice s.e.b.va s.e.b.vs.length s.e.b.vc, .slice s.e.b.pa s.e.b.ps.length s.e.b.pc, .slice s.e.b.qa s.e.b.qs.length s.e.b.qc, .int .i64 s.e.b.cs, .int .i64 s.e.b.nx, .slice s.e.oa s.e.os.length s.e.oc, .slice s.d.sa s.d.ss.length s.d.sc, .slice s.d.pa s.d.ps.length s.d.pc] 33)).alloc (.cells #[.slice none 0 0, .slice none 0 0, .slice none 0 0, .int .i64 0, .int .i64 0, .slice none 0 0, .slice none 0 0, .slice none 0 0] 49)).alloc (.cells #[.slice none 0 0, .slice none 0 0, .slice none 0 0, .int .i64 0, .int .i64 0, .slice none 0 0, .slice none 0 0, .slice none 0 0] 49)).heap.size = w.heap.size + 1 + 1 + 1) := by show _ = _; simp
 have HSZ : Hid (w.heap.size + 1 + 1 + 1 ≤ (((w.alloc (.cells #[.slice s.e.b.va s.e.b.vs.length s.e.b.vc, .slice s.e.b.pa s.e.b.ps.length s.e.b.pc, .slice s.e.b.qa s.e.b.qs.length s.e.b.qc, .int .i64 s.e.b.cs, .int .i64 s.e.b.nx, .slice s.e.oa s.e.os.length s.e.oc, .slice s.d.sa s.d.ss.length s.d.sc, .slice s.d.pa s.d.ps.length s.d.pc] 33)).alloc (.cells #[.slice none 0 0, .slice none 0 0, .slice none 0 0, .int .i64 0, .int .i64 0, .slice none 0 0, .slice none 0 0, .slice none 0 0] 49)).alloc (.cells #[.slice none 0 0, .slice none 0 0, .slice none 0 0, .int .i64 0, .int .i64 0, .slice none 0 0, .slice none 0 0, .slice none 0 0] 49)).heap.size) := by show _ ≤ _; rw [S0.out]; exact Nat.le_refl _
 have CB : Hid (∀ W : World, Below w.heap.size w W → Calls Tryz.prog 32 #[.agg #[.slice s.e.b.va s.e.b.vs.length s.e.b.vc, .slice s.e.b.pa s.e.b.ps.length s.e.b.pc, .slice s.e.b.qa s.e.b.qs.length s.e.b.qc, .int .i64 s.e.b.cs, .int .i64 s.e.b.nx, .slice s.e.oa s.e.os.length s.e.oc]] W fun ex w' => ∃ c : En, ex = .returned (.agg #[.slice c.b.va c.b.vs.length c.b.vc, .slice c.b.pa c.b.ps.length c.b.pc, .slice c.b.qa c.b.qs.length c.b.qc, .int .i64 c.b.cs, .int .i64 c.b.nx, .slice c.oa c.os.length c.oc]) ∧ EnSame s.e c ∧ EnLie w' W.heap.size w'.heap.size c ∧ Below W.heap.size W w') := fun W h => toE s.e HF.out.e W (HP.out.e.below h)
 have CO : Hid (∀ W : World, Below w.heap.size w W → Calls Tryz.prog 33 #[.agg #[.slice s.d.sa s.d.ss.length s.d.sc, .slice s.d.pa s.d.ps.length s.d.pc]] W fun ex w' => ∃ b1 d1 b2 d2, ex = .returned (.agg #[.slice b1 s.d.ss.length d1, .slice b2 s.d.ps.length d2]) ∧ DLie w' W.heap.size w'.heap.size ⟨s.d.ss, s.d.ps, b1, d1, b2, d2⟩ ∧ Below W.heap.size W w') := fun W h => by
  refine (to44 s.d.ss s.d.ps s.d.sa s.d.pa s.d.sc s.d.pc (Nat.le_trans HF.out.d.1 (by omega)) (Nat.le_trans HF.out.d.2.1 (by omega)) W (HP.out.d.s.below h) (HP.out.d.p.below h)).mono ?_
  rintro ex w' ⟨b1, d1, b2, d2, he, ho, hb⟩
  exact ⟨b1, d1, b2, d2, he, DLie.of ho, hb⟩
 clear HP HF S0
 go_enter Tryz.func14, Tryz.ntmps14
 go_upto_region 2 with fail
 generalize (((w.alloc (.cells #[.slice s.e.b.va s.e.b.vs.length s.e.b.vc, .slice s.e.b.pa s.e.b.ps.length s.e.b.pc, .slice s.e.b.qa s.e.b.qs.length s.e.b.qc, .int .i64 s.e.b.cs, .int .i64 s.e.b.nx, .slice s.e.oa s.e.os.length s.e.oc, .slice s.d.sa s.d.ss.length s.d.sc, .slice s.d.pa s.d.ps.length s.d.pc] 33)).alloc (.cells #[.slice none 0 0, .slice none 0 0, .slice none 0 0, .int .i64 0, .int .i64 0, .slice none 0 0, .slice none 0 0, .slice none 0 0] 49)).alloc (.cells #[.slice none 0 0, .slice none 0 0, .slice none 0 0, .int .i64 0, .int .i64 0, .slice none 0 0, .slice none 0 0, .slice none 0 0] 49)) = w0 at *
 have x0 := BA0.out.c0
 have fx0 := BA0.out.fz 0
 have x1 := BA0.out.c1
 have fx1 := BA0.out.fz 1
 have x2 := BA0.out.c2
 have fx2 := BA0.out.fz 2
 have x3 := BA0.out.c3
 have fx3 := BA0.out.fz 3
 have x4 := BA0.out.c4
 have fx4 := BA0.out.fz 4
 have x5 := BA0.out.c5
 have fx5 := BA0.out.fz 5
 go_wp2_with fail
 refine (CB.out _ HB0.out).mono ?_
 rintro ex w1 ⟨c, rfl, hsm, ho, hb⟩
 have BA1 : Hid (Bx w1 w.heap.size [.slice s.e.b.va s.e.b.vs.length s.e.b.vc, .slice s.e.b.pa s.e.b.ps.length s.e.b.pc, .slice s.e.b.qa s.e.b.qs.length s.e.b.qc, .int .i64 s.e.b.cs, .int .i64 s.e.b.nx, .slice s.e.oa s.e.os.length s.e.oc, .slice s.d.sa s.d.ss.length s.d.sc, .slice s.d.pa s.d.ps.length s.d.pc]) := BA0.out.below hb
 have BR1 : Hid (Bx w1 (w.heap.size + 1) [.slice none 0 0, .slice none 0 0, .slice none 0 0, .int .i64 0, .int .i64 0, .slice none 0 0, .slice none 0 0, .slice none 0 0]) := BR0.out.below hb
 have BO1 : Hid (Bx w1 (w.heap.size + 1 + 1) [.slice none 0 0, .slice none 0 0, .slice none 0 0, .int .i64 0, .int .i64 0, .slice none 0 0, .slice none 0 0, .slice none 0 0]) := BO0.out.below hb
 have HB1 : Hid (Below w.heap.size w w1) := HB0.out.trans (hb.mono HB0.out.size)
 have Y1 : Hid (w0.heap.size ≤ w1.heap.size) := hb.size
 have R1 : Hid (EnLie w1 w0.heap.size w1.heap.size c) := ho
 have SM := hide hsm
 clear ho hb hsm BA0 BR0 BO0 HB0
 clear x0 fx0 x1 fx1 x2 fx2 x3 fx3 x4 fx4 x5 fx5
 have o0 := BO1.out.c0
 have fo0 := BO1.out.fz 0
 have o1 := BO1.out.c1
 have fo1 := BO1.out.fz 1
 have o2 := BO1.out.c2
 have fo2 := BO1.out.fz 2
 have o3 := BO1.out.c3
 have fo3 := BO1.out.fz 3
 have o4 := BO1.out.c4
 have fo4 := BO1.out.fz 4
 have o5 := BO1.out.c5
 have fo5 := BO1.out.fz 5
 go_upto_region 3 with fail
 clear o0 fo0 o1 fo1 o2 fo2 o3 fo3 o4 fo4 o5 fo5
 replace BA1 : Hid (Bx ((((((w1.setCell ⟨w.heap.size + 1 + 1, 0, none⟩ (.slice c.b.va c.b.vs.length c.b.vc)).setCell ⟨w.heap.size + 1 + 1, 1, none⟩ (.slice c.b.pa c.b.ps.length c.b.pc)).setCell ⟨w.heap.size + 1 + 1, 2, none⟩ (.slice c.b.qa c.b.qs.length c.b.qc)).setCell ⟨w.heap.size + 1 + 1, 3, none⟩ (.int .i64 c.b.cs)).setCell ⟨w.heap.size + 1 + 1, 4, none⟩ (.int .i64 c.b.nx)).setCell ⟨w.heap.size + 1 + 1, 5, none⟩ (.slice c.oa c.os.length c.oc)) w.heap.size [.slice s.e.b.va s.e.b.vs.length s.e.b.vc, .slice s.e.b.pa s.e.b.ps.length s.e.b.pc, .slice s.e.b.qa s.e.b.qs.length s.e.b.qc, .int .i64 s.e.b.cs, .int .i64 s.e.b.nx, .slice s.e.oa s.e.os.length s.e.oc, .slice s.d.sa s.d.ss.length s.d.sc, .slice s.d.pa s.d.ps.length s.d.pc]) := (((((BA1.out.setO (p := ⟨w.heap.size + 1 + 1, 0, none⟩) (by show w.heap.size + 1 + 1 ≠ w.heap.size; omega) _).setO (p := ⟨w.heap.size + 1 + 1, 1, none⟩) (by show w.heap.size + 1 + 1 ≠ w.heap.size; omega) _).setO (p := ⟨w.heap.size + 1 + 1, 2, none⟩) (by show w.heap.size + 1 + 1 ≠ w.heap.size; omega) _).setO (p := ⟨w.heap.size + 1 + 1, 3, none⟩) (by show w.heap.size + 1 + 1 ≠ w.heap.size; omega) _).setO (p := ⟨w.heap.size + 1 + 1, 4, none⟩) (by show w.heap.size + 1 + 1 ≠ w.heap.size; omega) _).setO (p := ⟨w.heap.size + 1 + 1, 5, none⟩) (by show w.heap.size + 1 + 1 ≠ w.heap.size; omega) _
 replace BR1 : Hid (Bx ((((((w1.setCell ⟨w.heap.size + 1 + 1, 0, none⟩ (.slice c.b.va c.b.vs.length c.b.vc)).setCell ⟨w.heap.size + 1 + 1, 1, none⟩ (.slice c.b.pa c.b.ps.length c.b.pc)).setCell ⟨w.heap.size + 1 + 1, 2, none⟩ (.slice c.b.qa c.b.qs.length c.b.qc)).setCell ⟨w.heap.size + 1 + 1, 3, none⟩ (.int .i64 c.b.cs)).setCell ⟨w.heap.size + 1 + 1, 4, none⟩ (.int .i64 c.b.nx)).setCell ⟨w.heap.size + 1 + 1, 5, none⟩ (.slice c.oa c.os.length c.oc)) (w.heap.size + 1) [.slice none 0 0, .slice none 0 0, .slice none 0 0, .int .i64 0, .int .i64 0, .slice none 0 0, .slice none 0 0, .slice none 0 0]) := (((((BR1.out.setO (p := ⟨w.heap.size + 1 + 1, 0, none⟩) (by show w.heap.size + 1 + 1 ≠ w.heap.size + 1; omega) _).setO (p := ⟨w.heap.size + 1 + 1, 1, none⟩) (by show w.heap.size + 1 + 1 ≠ w.heap.size + 1; omega) _).setO (p := ⟨w.heap.size + 1 + 1, 2, none⟩) (by show w.heap.size + 1 + 1 ≠ w.heap.size + 1; omega) _).setO (p := ⟨w.heap.size + 1 + 1, 3, none⟩) (by show w.heap.size + 1 + 1 ≠ w.heap.size + 1; omega) _).setO (p := ⟨w.heap.size + 1 + 1, 4, none⟩) (by show w.heap.size + 1 + 1 ≠ w.heap.size + 1; omega) _).setO (p := ⟨w.heap.size + 1 + 1, 5, none⟩) (by show w.heap.size + 1 + 1 ≠ w.heap.size + 1; omega) _
 replace BO1 : Hid (Bx ((((((w1.setCell ⟨w.heap.size + 1 + 1, 0, none⟩ (.slice c.b.va c.b.vs.length c.b.vc)).setCell ⟨w.heap.size + 1 + 1, 1, none⟩ (.slice c.b.pa c.b.ps.length c.b.pc)).setCell ⟨w.heap.size + 1 + 1, 2, none⟩ (.slice c.b.qa c.b.qs.length c.b.qc)).setCell ⟨w.heap.size + 1 + 1, 3, none⟩ (.int .i64 c.b.cs)).setCell ⟨w.heap.size + 1 + 1, 4, none⟩ (.int .i64 c.b.nx)).setCell ⟨w.heap.size + 1 + 1, 5, none⟩ (.slice c.oa c.os.length c.oc)) (w.heap.size + 1 + 1) [.slice c.b.va c.b.vs.length c.b.vc, .slice c.b.pa c.b.ps.length c.b.pc, .slice c.b.qa c.b.qs.length c.b.qc, .int .i64 c.b.cs, .int .i64 c.b.nx, .slice c.oa c.os.length c.oc, .slice none 0 0, .slice none 0 0]) := (((((BO1.out.set 0 _).set 1 _).set 2 _).set 3 _).set 4 _).set 5 _
 replace HB1 : Hid (Below w.heap.size w ((((((w1.setCell ⟨w.heap.size + 1 + 1, 0, none⟩ (.slice c.b.va c.b.vs.length c.b.vc)).setCell ⟨w.heap.size + 1 + 1, 1, none⟩ (.slice c.b.pa c.b.ps.length c.b.pc)).setCell ⟨w.heap.size + 1 + 1, 2, none⟩ (.slice c.b.qa c.b.qs.length c.b.qc)).setCell ⟨w.heap.size + 1 + 1, 3, none⟩ (.int .i64 c.b.cs)).setCell ⟨w.heap.size + 1 + 1, 4, none⟩ (.int .i64 c.b.nx)).setCell ⟨w.heap.size + 1 + 1, 5, none⟩ (.slice c.oa c.os.length c.oc))) := (((((HB1.out.setCell (p := ⟨w.heap.size + 1 + 1, 0, none⟩) (by show _ ≤ _ + 1 + 1; omega) _).setCell (p := ⟨w.heap.size + 1 + 1, 1, none⟩) (by show _ ≤ _ + 1 + 1; omega) _).setCell (p := ⟨w.heap.size + 1 + 1, 2, none⟩) (by show _ ≤ _ + 1 + 1; omega) _).setCell (p := ⟨w.heap.size + 1 + 1, 3, none⟩) (by show _ ≤ _ + 1 + 1; omega) _).setCell (p := ⟨w.heap.size + 1 + 1, 4, none⟩) (by show _ ≤ _ + 1 + 1; omega) _).setCell (p := ⟨w.heap.size + 1 + 1, 5, none⟩) (by show _ ≤ _ + 1 + 1; omega) _
 replace R1 : Hid (EnLie ((((((w1.setCell ⟨w.heap.size + 1 + 1, 0, none⟩ (.slice c.b.va c.b.vs.length c.b.vc)).setCell ⟨w.heap.size + 1 + 1, 1, none⟩ (.slice c.b.pa c.b.ps.length c.b.pc)).setCell ⟨w.heap.size + 1 + 1, 2, none⟩ (.slice c.b.qa c.b.qs.length c.b.qc)).setCell ⟨w.heap.size + 1 + 1, 3, none⟩ (.int .i64 c.b.cs)).setCell ⟨w.heap.size + 1 + 1, 4, none⟩ (.int .i64 c.b.nx)).setCell ⟨w.heap.size + 1 + 1, 5, none⟩ (.slice c.oa c.os.length c.oc)) w0.heap.size w1.heap.size c) := (((((R1.out.set (a := ⟨w.heap.size + 1 + 1, 0, none⟩) (by have := HSZ.out; show w.heap.size + 1 + 1 < _; omega) _).set (a := ⟨w.heap.size + 1 + 1, 1, none⟩) (by have := HSZ.out; show w.heap.size + 1 + 1 < _; omega) _).set (a := ⟨w.heap.size + 1 + 1, 2, none⟩) (by have := HSZ.out; show w.heap.size + 1 + 1 < _; omega) _).set (a := ⟨w.heap.size + 1 + 1, 3, none⟩) (by have := HSZ.out; show w.heap.size + 1 + 1 < _; omega) _).set (a := ⟨w.heap.size + 1 + 1, 4, none⟩) (by have := HSZ.out; show w.heap.size + 1 + 1 < _; omega) _).set (a := ⟨w.heap.size + 1 + 1, 5, none⟩) (by have := HSZ.out; show w.heap.size + 1 + 1 < _; omega) _
 have YGv1 : Hid (w1.heap.size ≤ ((((((w1.setCell ⟨w.heap.size + 1 + 1, 0, none⟩ (.slice c.b.va c.b.vs.length c.b.vc)).setCell ⟨w.heap.size + 1 + 1, 1, none⟩ (.slice c.b.pa c.b.ps.length c.b.pc)).setCell ⟨w.heap.size + 1 + 1, 2, none⟩ (.slice c.b.qa c.b.qs.length c.b.qc)).setCell ⟨w.heap.size + 1 + 1, 3, none⟩ (.int .i64 c.b.cs)).setCell ⟨w.heap.size + 1 + 1, 4, none⟩ (.int .i64 c.b.nx)).setCell ⟨w.heap.size + 1 + 1, 5, none⟩ (.slice c.oa c.os.length c.oc)).heap.size) := by show _ ≤ _; simp [World.setCell]
 generalize ((((((w1.setCell ⟨w.heap.size + 1 + 1, 0, none⟩ (.slice c.b.va c.b.vs.length c.b.vc)).setCell ⟨w.heap.size + 1 + 1, 1, none⟩ (.slice c.b.pa c.b.ps.length c.b.pc)).setCell ⟨w.heap.size + 1 + 1, 2, none⟩ (.slice c.b.qa c.b.qs.length c.b.qc)).setCell ⟨w.heap.size + 1 + 1, 3, none⟩ (.int .i64 c.b.cs)).setCell ⟨w.heap.size + 1 + 1, 4, none⟩ (.int .i64 c.b.nx)).setCell ⟨w.heap.size + 1 + 1, 5, none⟩ (.slice c.oa c.os.length c.oc)) = v1 at *
 have LZ1 : Hid (w.heap.size + 1 + 1 + 1 ≤ v1.heap.size) := by show _ ≤ _; have := HSZ.out; have := Y1.out; have := YGv1.out; omega
 have x6 := BA1.out.c6
 have fx6 := BA1.out.fz 6
 have x7 := BA1.out.c7
 have fx7 := BA1.out.fz 7
 go_wp2_with fail
 refine (CO.out _ HB1.out).mono ?_
 rintro ex w2 ⟨b1, d1, b2, d2, rfl, ho, hb⟩
 have BA2 : Hid (Bx w2 w.heap.size [.slice s.e.b.va s.e.b.vs.length s.e.b.vc, .slice s.e.b.pa s.e.b.ps.length s.e.b.pc, .slice s.e.b.qa s.e.b.qs.length s.e.b.qc, .int .i64 s.e.b.cs, .int .i64 s.e.b.nx, .slice s.e.oa s.e.os.length s.e.oc, .slice s.d.sa s.d.ss.length s.d.sc, .slice s.d.pa s.d.ps.length s.d.pc]) := BA1.out.below hb
 have BR2 : Hid (Bx w2 (w.heap.size + 1) [.slice none 0 0, .slice none 0 0, .slice none 0 0, .int .i64 0, .int .i64 0, .slice none 0 0, .slice none 0 0, .slice none 0 0]) := BR1.out.below hb
 have BO2 : Hid (Bx w2 (w.heap.size + 1 + 1) [.slice c.b.va c.b.vs.length c.b.vc, .slice c.b.pa c.b.ps.length c.b.pc, .slice c.b.qa c.b.qs.length c.b.qc, .int .i64 c.b.cs, .int .i64 c.b.nx, .slice c.oa c.os.length c.oc, .slice none 0 0, .slice none 0 0]) := BO1.out.below hb
 have HB2 : Hid (Below w.heap.size w w2) := HB1.out.trans (hb.mono HB1.out.size)
 have Y2 : Hid (v1.heap.size ≤ w2.heap.size) := hb.size
 replace R1 : Hid (EnLie w2 w0.heap.size w1.heap.size c) := R1.out.below hb
 have R2 : Hid (DLie w2 v1.heap.size w2.heap.size ⟨s.d.ss, s.d.ps, b1, d1, b2, d2⟩) := ho
 clear ho hb BA1 BR1 BO1 HB1
 clear x6 fx6 x7 fx7
 have o6 := BO2.out.c6
 have fo6 := BO2.out.fz 6
 have o7 := BO2.out.c7
 have fo7 := BO2.out.fz 7
 go_upto_region 4 with fail
 clear o6 fo6 o7 fo7
 replace BA2 : Hid (Bx ((w2.setCell ⟨w.heap.size + 1 + 1, 6, none⟩ (.slice b1 s.d.ss.length d1)).setCell ⟨w.heap.size + 1 + 1, 7, none⟩ (.slice b2 s.d.ps.length d2)) w.heap.size [.slice s.e.b.va s.e.b.vs.length s.e.b.vc, .slice s.e.b.pa s.e.b.ps.length s.e.b.pc, .slice s.e.b.qa s.e.b.qs.length s.e.b.qc, .int .i64 s.e.b.cs, .int .i64 s.e.b.nx, .slice s.e.oa s.e.os.length s.e.oc, .slice s.d.sa s.d.ss.length s.d.sc, .slice s.d.pa s.d.ps.length s.d.pc]) := (BA2.out.setO (p := ⟨w.heap.size + 1 + 1, 6, none⟩) (by show w.heap.size + 1 + 1 ≠ w.heap.size; omega) _).setO (p := ⟨w.heap.size + 1 + 1, 7, none⟩) (by show w.heap.size + 1 + 1 ≠ w.heap.size; omega) _
 replace BR2 : Hid (Bx ((w2.setCell ⟨w.heap.size + 1 + 1, 6, none⟩ (.slice b1 s.d.ss.length d1)).setCell ⟨w.heap.size + 1 + 1, 7, none⟩ (.slice b2 s.d.ps.length d2)) (w.heap.size + 1) [.slice none 0 0, .slice none 0 0, .slice none 0 0, .int .i64 0, .int .i64 0, .slice none 0 0, .slice none 0 0, .slice none 0 0]) := (BR2.out.setO (p := ⟨w.heap.size + 1 + 1, 6, none⟩) (by show w.heap.size + 1 + 1 ≠ w.heap.size + 1; omega) _).setO (p := ⟨w.heap.size + 1 + 1, 7, none⟩) (by show w.heap.size + 1 + 1 ≠ w.heap.size + 1; omega) _
 replace BO2 : Hid (Bx ((w2.setCell ⟨w.heap.size + 1 + 1, 6, none⟩ (.slice b1 s.d.ss.length d1)).setCell ⟨w.heap.size + 1 + 1, 7, none⟩ (.slice b2 s.d.ps.length d2)) (w.heap.size + 1 + 1) [.slice c.b.va c.b.vs.length c.b.vc, .slice c.b.pa c.b.ps.length c.b.pc, .slice c.b.qa c.b.qs.length c.b.qc, .int .i64 c.b.cs, .int .i64 c.b.nx, .slice c.oa c.os.length c.oc, .slice b1 s.d.ss.length d1, .slice b2 s.d.ps.length d2]) := (BO2.out.set 6 _).set 7 _
 replace HB2 : Hid (Below w.heap.size w ((w2.setCell ⟨w.heap.size + 1 + 1, 6, none⟩ (.slice b1 s.d.ss.length d1)).setCell ⟨w.heap.size + 1 + 1, 7, none⟩ (.slice b2 s.d.ps.length d2))) := (HB2.out.setCell (p := ⟨w.heap.size + 1 + 1, 6, none⟩) (by show _ ≤ _ + 1 + 1; omega) _).setCell (p := ⟨w.heap.size + 1 + 1, 7, none⟩) (by show _ ≤ _ + 1 + 1; omega) _
 replace R1 : Hid (EnLie ((w2.setCell ⟨w.heap.size + 1 + 1, 6, none⟩ (.slice b1 s.d.ss.length d1)).setCell ⟨w.heap.size + 1 + 1, 7, none⟩ (.slice b2 s.d.ps.length d2)) w0.heap.size w1.heap.size c) := (R1.out.set (a := ⟨w.heap.size + 1 + 1, 6, none⟩) (by have := HSZ.out; show w.heap.size + 1 + 1 < _; omega) _).set (a := ⟨w.heap.size + 1 + 1, 7, none⟩) (by have := HSZ.out; show w.heap.size + 1 + 1 < _; omega) _
 replace R2 : Hid (DLie ((w2.setCell ⟨w.heap.size + 1 + 1, 6, none⟩ (.slice b1 s.d.ss.length d1)).setCell ⟨w.heap.size + 1 + 1, 7, none⟩ (.slice b2 s.d.ps.length d2)) v1.heap.size w2.heap.size ⟨s.d.ss, s.d.ps, b1, d1, b2, d2⟩) := (R2.out.set (a := ⟨w.heap.size + 1 + 1, 6, none⟩) (by have := LZ1.out; show w.heap.size + 1 + 1 < _; omega) _).set (a := ⟨w.heap.size + 1 + 1, 7, none⟩) (by have := LZ1.out; show w.heap.size + 1 + 1 < _; omega) _
 have YGv2 : Hid (w2.heap.size ≤ ((w2.setCell ⟨w.heap.size + 1 + 1, 6, none⟩ (.slice b1 s.d.ss.length d1)).setCell ⟨w.heap.size + 1 + 1, 7, none⟩ (.slice b2 s.d.ps.length d2)).heap.size) := by show _ ≤ _; simp [World.setCell]
 generalize ((w2.setCell ⟨w.heap.size + 1 + 1, 6, none⟩ (.slice b1 s.d.ss.length d1)).setCell ⟨w.heap.size + 1 + 1, 7, none⟩ (.slice b2 s.d.ps.length d2)) = v2 at *
 have HE : Hid (StLie v2 (w.heap.size + 1 + 1 + 1) v2.heap.size ⟨c, ⟨s.d.ss, s.d.ps, b1, d1, b2, d2⟩⟩) := ⟨v1.heap.size, LZ1.out, by have := Y2.out; have := YGv2.out; omega, R1.out.mono HSZ.out (by have := YGv1.out; omega), R2.out.mono (Nat.le_refl _) YGv2.out⟩
 have HSM : Hid (StSame s ⟨c, ⟨s.d.ss, s.d.ps, b1, d1, b2, d2⟩⟩) := ⟨SM.out, ⟨rfl, rfl⟩⟩
 clear R1 R2 SM
 have o0 := BO2.out.c0
 have fo0 := BO2.out.fz 0
 have o1 := BO2.out.c1
 have fo1 := BO2.out.fz 1
 have o2 := BO2.out.c2
 have fo2 := BO2.out.fz 2
 have o3 := BO2.out.c3
 have fo3 := BO2.out.fz 3
 have o4 := BO2.out.c4
 have fo4 := BO2.out.fz 4
 have o5 := BO2.out.c5
 have fo5 := BO2.out.fz 5
 have o6 := BO2.out.c6
 have fo6 := BO2.out.fz 6
 have o7 := BO2.out.c7
 have fo7 := BO2.out.fz 7
 have q0 := BR2.out.c0
 have fq0 := BR2.out.fz 0
 have q1 := BR2.out.c1
 have fq1 := BR2.out.fz 1
 have q2 := BR2.out.c2
 have fq2 := BR2.out.fz 2
 have q3 := BR2.out.c3
 have fq3 := BR2.out.fz 3
 have q4 := BR2.out.c4
 have fq4 := BR2.out.fz 4
 have q5 := BR2.out.c5
 have fq5 := BR2.out.fz 5
 have q6 := BR2.out.c6
 have fq6 := BR2.out.fz 6
 have q7 := BR2.out.c7
 have fq7 := BR2.out.fz 7
 go_wp2
 refine bodyPost_ret (v := .agg #[.slice c.b.va c.b.vs.length c.b.vc, .slice c.b.pa c.b.ps.length c.b.pc, .slice c.b.qa c.b.qs.length c.b.qc, .int .i64 c.b.cs, .int .i64 c.b.nx, .slice c.oa c.os.length c.oc, .slice b1 s.d.ss.length d1, .slice b2 s.d.ps.length d2]) (by simp [results, Tryz.results14, go_sem, q0, q1, q2, q3, q4, q5, q6, q7]) rfl ⟨⟨c, ⟨s.d.ss, s.d.ps, b1, d1, b2, d2⟩⟩, rfl, HSM.out, ?_, ?_⟩
 ·exact (((((((((HE.out.set (a := ⟨w.heap.size + 1, 0, none⟩) (by show _ + 1 < _; omega) _).set (a := ⟨w.heap.size + 1, 1, none⟩) (by show _ + 1 < _; omega) _).set (a := ⟨w.heap.size + 1, 2, none⟩) (by show _ + 1 < _; omega) _).set (a := ⟨w.heap.size + 1, 3, none⟩) (by show _ + 1 < _; omega) _).set (a := ⟨w.heap.size + 1, 4, none⟩) (by show _ + 1 < _; omega) _).set (a := ⟨w.heap.size + 1, 5, none⟩) (by show _ + 1 < _; omega) _).set (a := ⟨w.heap.size + 1, 6, none⟩) (by show _ + 1 < _; omega) _).set (a := ⟨w.heap.size + 1, 7, none⟩) (by show _ + 1 < _; omega) _).mono (by omega) (by simp [World.setCell]))
 ·exact (((((((HB2.out.setCell (p := ⟨w.heap.size + 1, 0, none⟩) (by show _ ≤ _ + 1; omega) _).setCell (p := ⟨w.heap.size + 1, 1, none⟩) (by show _ ≤ _ + 1; omega) _).setCell (p := ⟨w.heap.size + 1, 2, none⟩) (by show _ ≤ _ + 1; omega) _).setCell (p := ⟨w.heap.size + 1, 3, none⟩) (by show _ ≤ _ + 1; omega) _).setCell (p := ⟨w.heap.size + 1, 4, none⟩) (by show _ ≤ _ + 1; omega) _).setCell (p := ⟨w.heap.size + 1, 5, none⟩) (by show _ ≤ _ + 1; omega) _).setCell (p := ⟨w.heap.size + 1, 6, none⟩) (by show _ ≤ _ + 1; omega) _).setCell (p := ⟨w.heap.size + 1, 7, none⟩) (by show _ ≤ _ + 1; omega) _

end Go.Proofs.YtmijppfppigjcaaGreat
