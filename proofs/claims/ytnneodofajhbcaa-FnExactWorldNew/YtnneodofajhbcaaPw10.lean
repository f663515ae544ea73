/- A store: how it lies, its size, its likeness. -/
import Derived.Test.YtnneodofajhbcaaPw04
import Derived.Test.YtnneodofajhbcaaPw05
import Derived.Test.YtnneodofajhbcaaPw06
import Derived.Test.YtnneodofajhbcaaPw09
import Derived.Deep.RegionHeld3
import Derived.Deep.Cut
import Derived.Deep.CutRange
namespace Go.Proofs.Ytnneodofajhbcaa
open Go.RowKit
open KM
attribute [local go_sem ↓] Go.wp_at_zero Go.wp_at_succ

structure Dk where
  ss : List ByteArray
  ps : List Wr
  sa : Option Addr
  sc : Nat
  pa : Option Addr
  pc : Nat
structure DRows (w : World) (d : Dk) : Prop where
  s : SRow w d.sa d.ss
  p : PRow w d.pa d.ps
theorem DRows.below {w w' : World} {d : Dk} (h : DRows w d) (hb : Below w.heap.size w w') : DRows w' d := ⟨h.s.below hb, h.p.below hb⟩
structure DArg (w : World) (d : Dk) : Prop where
  sl : d.ss.length ≤ 9223372036854775807
  st : ∀ s ∈ d.ss, s.size ≤ 9223372036854775807
  pl : d.ps.length ≤ 9223372036854775807
  pt : ∀ p ∈ d.ps, p.2.size ≤ 9223372036854775807
  rows : DRows w d
theorem DArg.below {w w' : World} {d : Dk} (h : DArg w d) (hb : Below w.heap.size w w') : DArg w' d := ⟨h.sl, h.st, h.pl, h.pt, h.rows.below hb⟩
structure DSame (d c : Dk) : Prop where
  s : c.ss = d.ss
  p : c.ps = d.ps
theorem DSame.trans {d c k : Dk} (h : DSame d c) (q : DSame c k) : DSame d k := ⟨q.s.trans h.s, q.p.trans h.p⟩
theorem DSame.symm {d c : Dk} (h : DSame d c) : DSame c d := ⟨h.s.symm, h.p.symm⟩
def DFit (d : Dk) : Prop := Fits d.ss d.ps
theorem DSame.fit {d c : Dk} (h : DSame d c) (hf : DFit d) : DFit c := by unfold DFit; rw [h.s, h.p]; exact hf
structure DLie (w : World) (lo hi : Nat) (d : Dk) : Prop where
  s : SOwn w lo (.slice d.sa d.ss.length d.sc) d.ss
  p : POwn w lo (.slice d.pa d.ps.length d.pc) d.ps
  su : ∀ g, (Value.slice d.sa d.ss.length d.sc).ownBlock = some g → g < hi
  pu : ∀ g, (Value.slice d.pa d.ps.length d.pc).ownBlock = some g → g < hi
theorem own_lo {w : World} {base e size n : Nat} {v : Value} {xs : List Value} (h : w.ownsRow base e size v n xs) (g : Nat) (hg : v.ownBlock = some g) : base ≤ g ∧ g < w.heap.size := by
  obtain ⟨_, h2⟩ := h
  rcases h2 with h2 | ⟨g', cap, cur, hv, hb, hh, _⟩
  · rw [h2.1] at hg; simp [Value.ownBlock] at hg
  · rw [hv] at hg
    simp [Value.ownBlock] at hg
    subst hg
    exact ⟨hb, (Array.getElem?_eq_some_iff.1 hh).1⟩
theorem DLie.rows {w : World} {lo hi : Nat} {d : Dk} (h : DLie w lo hi d) : DRows w d := ⟨h.s.srow, h.p.prow⟩
theorem DLie.below {w w' : World} {lo hi : Nat} {d : Dk} (h : DLie w lo hi d) (hb : Below w.heap.size w w') : DLie w' lo hi d := ⟨h.s.below hb, h.p.below hb, h.su, h.pu⟩
theorem DLie.set {w : World} {lo hi : Nat} {d : Dk} (h : DLie w lo hi d) {a : Addr} (ha : a.block < lo) (u : Value) : DLie (w.setCell a u) lo hi d := ⟨h.s.set ha u, h.p.set ha u, h.su, h.pu⟩
theorem DLie.mono {w : World} {lo hi lo' hi' : Nat} {d : Dk} (h : DLie w lo hi d) (k : lo' ≤ lo) (k' : hi ≤ hi') : DLie w lo' hi' d := ⟨h.s.mono k, h.p.mono k, fun g q => Nat.lt_of_lt_of_le (h.su g q) k', fun g q => Nat.lt_of_lt_of_le (h.pu g q) k'⟩
theorem DLie.zn {w w' : World} {lo hi l h : Nat} {d : Dk} (k : DLie w lo hi d) (hz : Zn l h w w') (hne : hi ≤ l ∨ h ≤ lo) : DLie w' lo hi d := by
  refine ⟨ownsZn k.s hz (fun g hg => ?_), ownsZn k.p hz (fun g hg => ?_), k.su, k.pu⟩
  · have := k.su g hg; have := own_lo k.s g hg; omega
  · have := k.pu g hg; have := own_lo k.p g hg; omega
theorem DLie.of {w : World} {lo : Nat} {a1 a2 : Option Addr} {c1 c2 : Nat} {ss : List ByteArray} {ps : List Wr} (h : DOwn w lo a1 c1 a2 c2 ss ps) : DLie w lo w.heap.size ⟨ss, ps, a1, c1, a2, c2⟩ :=
  ⟨h.s, h.p, fun g hg => (own_lo h.s g hg).2, fun g hg => (own_lo h.p g hg).2⟩
structure St where
  e : En
  d : Dk
structure StRows (w : World) (s : St) : Prop where
  e : EnRows w s.e
  d : DRows w s.d
theorem StRows.below {w w' : World} {s : St} (h : StRows w s) (hb : Below w.heap.size w w') : StRows w' s := ⟨h.e.below hb, h.d.below hb⟩
structure StArg (w : World) (s : St) : Prop where
  e : EnArg w s.e
  d : DArg w s.d
theorem StArg.below {w w' : World} {s : St} (h : StArg w s) (hb : Below w.heap.size w w') : StArg w' s := ⟨h.e.below hb, h.d.below hb⟩
theorem StArg.rows {w : World} {s : St} (h : StArg w s) : StRows w s := ⟨h.e.rows, h.d.rows⟩
structure StFit (s : St) : Prop where
  e : EnFit s.e
  d : DFit s.d
structure StSame (s c : St) : Prop where
  e : EnSame s.e c.e
  d : DSame s.d c.d
theorem StSame.fit {s c : St} (h : StSame s c) (hf : StFit s) : StFit c := ⟨h.e.fit hf.e, h.d.fit hf.d⟩
theorem StSame.trans {s c k : St} (h : StSame s c) (q : StSame c k) : StSame s k := ⟨h.e.trans q.e, h.d.trans q.d⟩
theorem StSame.symm {s c : St} (h : StSame s c) : StSame c s := ⟨h.e.symm, h.d.symm⟩
structure StLie (w : World) (lo hi : Nat) (s : St) : Prop where
  ex : ∃ m, lo ≤ m ∧ m ≤ hi ∧ EnLie w lo m s.e ∧ DLie w m hi s.d
theorem StLie.rows {w : World} {lo hi : Nat} {s : St} (h : StLie w lo hi s) : StRows w s := by
  obtain ⟨m, _, _, h1, h2⟩ := h.ex
  exact ⟨h1.rows, h2.rows⟩
theorem StLie.below {w w' : World} {lo hi : Nat} {s : St} (h : StLie w lo hi s) (hb : Below w.heap.size w w') : StLie w' lo hi s := by
  obtain ⟨m, a, b, h1, h2⟩ := h.ex
  exact ⟨m, a, b, h1.below hb, h2.below hb⟩
theorem StLie.set {w : World} {lo hi : Nat} {s : St} (h : StLie w lo hi s) {a : Addr} (ha : a.block < lo) (u : Value) : StLie (w.setCell a u) lo hi s := by
  obtain ⟨m, k1, k2, h1, h2⟩ := h.ex
  exact ⟨m, k1, k2, h1.set ha u, h2.set (by omega) u⟩
theorem StLie.mono {w : World} {lo hi lo' hi' : Nat} {s : St} (h : StLie w lo hi s) (k : lo' ≤ lo) (k' : hi ≤ hi') : StLie w lo' hi' s := by
  obtain ⟨m, k1, k2, h1, h2⟩ := h.ex
  exact ⟨m, by omega, by omega, h1.mono k (Nat.le_refl _), h2.mono (Nat.le_refl _) k'⟩
theorem StLie.zn {w w' : World} {lo hi l h : Nat} {s : St} (k : StLie w lo hi s) (hz : Zn l h w w') (hne : hi ≤ l ∨ h ≤ lo) : StLie w' lo hi s := by
  obtain ⟨m, k1, k2, h1, h2⟩ := k.ex
  exact ⟨m, k1, k2, h1.zn hz (by omega), h2.zn hz (by omega)⟩

set_option maxRecDepth 100000 in
set_option maxHeartbeats 2000000 in
theorem eqS0 (s c : St) (hs : StSame s c) (hf : StFit s) (w : World) (hp : StRows w s) (hq : StRows w c) :
    Calls Try.prog 21 #[.agg #[.slice s.e.b.va s.e.b.vs.length s.e.b.vc, .slice s.e.b.pa s.e.b.ps.length s.e.b.pc, .slice s.e.b.qa s.e.b.qs.length s.e.b.qc, .int .i64 s.e.b.cs, .int .i64 s.e.b.nx, .slice s.e.oa s.e.os.length s.e.oc, .slice s.d.sa s.d.ss.length s.d.sc, .slice s.d.pa s.d.ps.length s.d.pc], .agg #[.slice c.e.b.va s.e.b.vs.length c.e.b.vc, .slice c.e.b.pa s.e.b.ps.length c.e.b.pc, .slice c.e.b.qa s.e.b.qs.length c.e.b.qc, .int .i64 s.e.b.cs, .int .i64 s.e.b.nx, .slice c.e.oa s.e.os.length c.e.oc, .slice c.d.sa s.d.ss.length c.d.sc, .slice c.d.pa s.d.ps.length c.d.pc]] w fun ex w' => ex = .returned (.bool true) ∧ Below w.heap.size w w' := by
  have HP : Hid (StRows w s) := hp
  have HQ : Hid (StRows w c) := hq
  have HS : Hid (StSame s c) := hs
  have HF : Hid (StFit s) := hf
  clear hp hq hs hf
  have BA0 : Hid (Bx ((w.alloc (.cells #[.slice s.e.b.va s.e.b.vs.length s.e.b.vc, .slice s.e.b.pa s.e.b.ps.length s.e.b.pc, .slice s.e.b.qa s.e.b.qs.length s.e.b.qc, .int .i64 s.e.b.cs, .int .i64 s.e.b.nx, .slice s.e.oa s.e.os.length s.e.oc, .slice s.d.sa s.d.ss.length s.d.sc, .slice s.d.pa s.d.ps.length s.d.pc] 42)).alloc (.cells #[.slice c.e.b.va s.e.b.vs.length c.e.b.vc, .slice c.e.b.pa s.e.b.ps.length c.e.b.pc, .slice c.e.b.qa s.e.b.qs.length c.e.b.qc, .int .i64 s.e.b.cs, .int .i64 s.e.b.nx, .slice c.e.oa s.e.os.length c.e.oc, .slice c.d.sa s.d.ss.length c.d.sc, .slice c.d.pa s.d.ps.length c.d.pc] 42)) w.heap.size [.slice s.e.b.va s.e.b.vs.length s.e.b.vc, .slice s.e.b.pa s.e.b.ps.length s.e.b.pc, .slice s.e.b.qa s.e.b.qs.length s.e.b.qc, .int .i64 s.e.b.cs, .int .i64 s.e.b.nx, .slice s.e.oa s.e.os.length s.e.oc, .slice s.d.sa s.d.ss.length s.d.sc, .slice s.d.pa s.d.ps.length s.d.pc]) := (Bx.new w [.slice s.e.b.va s.e.b.vs.length s.e.b.vc, .slice s.e.b.pa s.e.b.ps.length s.e.b.pc, .slice s.e.b.qa s.e.b.qs.length s.e.b.qc, .int .i64 s.e.b.cs, .int .i64 s.e.b.nx, .slice s.e.oa s.e.os.length s.e.oc, .slice s.d.sa s.d.ss.length s.d.sc, .slice s.d.pa s.d.ps.length s.d.pc] 42).alloc _
  have BB0 : Hid (Bx ((w.alloc (.cells #[.slice s.e.b.va s.e.b.vs.length s.e.b.vc, .slice s.e.b.pa s.e.b.ps.length s.e.b.pc, .slice s.e.b.qa s.e.b.qs.length s.e.b.qc, .int .i64 s.e.b.cs, .int .i64 s.e.b.nx, .slice s.e.oa s.e.os.length s.e.oc, .slice s.d.sa s.d.ss.length s.d.sc, .slice s.d.pa s.d.ps.length s.d.pc] 42)).alloc (.cells #[.slice c.e.b.va s.e.b.vs.length c.e.b.vc, .slice c.e.b.pa s.e.b.ps.length c.e.b.pc, .slice c.e.b.qa s.e.b.qs.length c.e.b.qc, .int .i64 s.e.b.cs, .int .i64 s.e.b.nx, .slice c.e.oa s.e.os.length c.e.oc, .slice c.d.sa s.d.ss.length c.d.sc, .slice c.d.pa s.d.ps.length c.d.pc] 42)) (w.heap.size + 1) [.slice c.e.b.va s.e.b.vs.length c.e.b.vc, .slice c.e.b.pa s.e.b.ps.length c.e.b.pc, .slice c.e.b.qa s.e.b.qs.length c.e.b.qc, .int .i64 s.e.b.cs, .int .i64 s.e.b.nx, .slice c.e.oa s.e.os.length c.e.oc, .slice c.d.sa s.d.ss.length c.d.sc, .slice c.d.pa s.d.ps.length c.d.pc]) := by
    have h := Bx.new (w.alloc (.cells #[.slice s.e.b.va s.e.b.vs.length s.e.b.vc, .slice s.e.b.pa s.e.b.ps.length s.e.b.pc, .slice s.e.b.qa s.e.b.qs.length s.e.b.qc, .int .i64 s.e.b.cs, .int .i64 s.e.b.nx, .slice s.e.oa s.e.os.length s.e.oc, .slice s.d.sa s.d.ss.length s.d.sc, .slice s.d.pa s.d.ps.length s.d.pc] 42)) [.slice c.e.b.va s.e.b.vs.length c.e.b.vc, .slice c.e.b.pa s.e.b.ps.length c.e.b.pc, .slice c.e.b.qa s.e.b.qs.length c.e.b.qc, .int .i64 s.e.b.cs, .int .i64 s.e.b.nx, .slice c.e.oa s.e.os.length c.e.oc, .slice c.d.sa s.d.ss.length c.d.sc, .slice c.d.pa s.d.ps.length c.d.pc] 42
    rw [World.size_alloc] at h
    exact h
  have HB0 : Hid (Below w.heap.size w ((w.alloc (.cells #[.slice s.e.b.va s.e.b.vs.length s.e.b.vc, .slice s.e.b.pa s.e.b.ps.length s.e.b.pc, .slice s.e.b.qa s.e.b.qs.length s.e.b.qc, .int .i64 s.e.b.cs, .int .i64 s.e.b.nx, .slice s.e.oa s.e.os.length s.e.oc, .slice s.d.sa s.d.ss.length s.d.sc, .slice s.d.pa s.d.ps.length s.d.pc] 42)).alloc (.cells #[.slice c.e.b.va s.e.b.vs.length c.e.b.vc, .slice c.e.b.pa s.e.b.ps.length c.e.b.pc, .slice c.e.b.qa s.e.b.qs.length c.e.b.qc, .int .i64 s.e.b.cs, .int .i64 s.e.b.nx, .slice c.e.oa s.e.os.length c.e.oc, .slice c.d.sa s.d.ss.length c.d.sc, .slice c.d.pa s.d.ps.length c.d.pc] 42))) := ((belowRefl w).alloc (Nat.le_refl _) _).alloc (by simp) _
  have CB : Hid (∀ W : World, Below w.heap.size w W → Calls Try.prog 36 #[.agg #[.slice s.e.b.va s.e.b.vs.length s.e.b.vc, .slice s.e.b.pa s.e.b.ps.length s.e.b.pc, .slice s.e.b.qa s.e.b.qs.length s.e.b.qc, .int .i64 s.e.b.cs, .int .i64 s.e.b.nx, .slice s.e.oa s.e.os.length s.e.oc], .agg #[.slice c.e.b.va s.e.b.vs.length c.e.b.vc, .slice c.e.b.pa s.e.b.ps.length c.e.b.pc, .slice c.e.b.qa s.e.b.qs.length c.e.b.qc, .int .i64 s.e.b.cs, .int .i64 s.e.b.nx, .slice c.e.oa s.e.os.length c.e.oc]] W fun ex w' => ex = .returned (.bool true) ∧ Below W.heap.size W w') := fun W h => eqE0 s.e c.e HS.out.e HF.out.e W (HP.out.e.below h) (HQ.out.e.below h)
  have CO : Hid (∀ W : World, Below w.heap.size w W → Calls Try.prog 37 #[.agg #[.slice s.d.sa s.d.ss.length s.d.sc, .slice s.d.pa s.d.ps.length s.d.pc], .agg #[.slice c.d.sa s.d.ss.length c.d.sc, .slice c.d.pa s.d.ps.length c.d.pc]] W fun ex w' => ex = .returned (.bool true) ∧ Below W.heap.size W w') := fun W h => eq40 s.d.sa s.d.pa c.d.sa c.d.pa s.d.sc s.d.pc c.d.sc c.d.pc s.d.ss s.d.ps (Nat.le_trans HF.out.d.1 (by omega)) (Nat.le_trans HF.out.d.2.1 (by omega)) W (HP.out.d.s.below h) (HP.out.d.p.below h) (by have k := HQ.out.d.s; rw [HS.out.d.s] at k; exact k.below h) (by have k := HQ.out.d.p; rw [HS.out.d.p] at k; exact k.below h)
  clear HP HQ HS HF
  go_enter Try.func21, Try.ntmps21
  go_wp2_with fail
  refine (CB.out _ HB0.out).mono ?_
  rintro ex w1 ⟨rfl, hb1⟩
  have BA1 : Hid (Bx w1 w.heap.size [.slice s.e.b.va s.e.b.vs.length s.e.b.vc, .slice s.e.b.pa s.e.b.ps.length s.e.b.pc, .slice s.e.b.qa s.e.b.qs.length s.e.b.qc, .int .i64 s.e.b.cs, .int .i64 s.e.b.nx, .slice s.e.oa s.e.os.length s.e.oc, .slice s.d.sa s.d.ss.length s.d.sc, .slice s.d.pa s.d.ps.length s.d.pc]) := BA0.out.below hb1
  have BB1 : Hid (Bx w1 (w.heap.size + 1) [.slice c.e.b.va s.e.b.vs.length c.e.b.vc, .slice c.e.b.pa s.e.b.ps.length c.e.b.pc, .slice c.e.b.qa s.e.b.qs.length c.e.b.qc, .int .i64 s.e.b.cs, .int .i64 s.e.b.nx, .slice c.e.oa s.e.os.length c.e.oc, .slice c.d.sa s.d.ss.length c.d.sc, .slice c.d.pa s.d.ps.length c.d.pc]) := BB0.out.below hb1
  have HB1 : Hid (Below w.heap.size w w1) := HB0.out.trans (hb1.mono HB0.out.size)
  clear hb1 BA0 BB0 HB0
  have x6 := BA1.out.c6
  have y6 := BB1.out.c6
  have x7 := BA1.out.c7
  have y7 := BB1.out.c7
  go_wp2_with fail
  refine (CO.out _ HB1.out).mono ?_
  rintro ex w2 ⟨rfl, hb2⟩
  have HB2 : Hid (Below w.heap.size w w2) := HB1.out.trans (hb2.mono HB1.out.size)
  clear hb2
  go_wp2
  go_ret
  exact ⟨rfl, HB2.out⟩

theorem eqS (s c : St) (hs : StSame s c) (hf : StFit s) (w : World) (hp : StRows w s) (hq : StRows w c) :
    Calls Try.prog 21 #[.agg #[.slice s.e.b.va s.e.b.vs.length s.e.b.vc, .slice s.e.b.pa s.e.b.ps.length s.e.b.pc, .slice s.e.b.qa s.e.b.qs.length s.e.b.qc, .int .i64 s.e.b.cs, .int .i64 s.e.b.nx, .slice s.e.oa s.e.os.length s.e.oc, .slice s.d.sa s.d.ss.length s.d.sc, .slice s.d.pa s.d.ps.length s.d.pc], .agg #[.slice c.e.b.va c.e.b.vs.length c.e.b.vc, .slice c.e.b.pa c.e.b.ps.length c.e.b.pc, .slice c.e.b.qa c.e.b.qs.length c.e.b.qc, .int .i64 c.e.b.cs, .int .i64 c.e.b.nx, .slice c.e.oa c.e.os.length c.e.oc, .slice c.d.sa c.d.ss.length c.d.sc, .slice c.d.pa c.d.ps.length c.d.pc]] w fun ex w' => ex = .returned (.bool true) ∧ Below w.heap.size w w' := by
  have h := eqS0 s c hs hf w hp hq
  rw [← hs.e.b.cs, ← hs.e.b.nx, ← hs.e.ol] at h
  rw [← hs.e.b.cs, ← hs.e.b.nx, ← hs.e.ol]
  rw [← hs.e.b.vl, ← hs.e.b.pl, ← hs.e.b.ql] at h
  rw [← hs.e.b.vl, ← hs.e.b.pl, ← hs.e.b.ql]
  rw [← hs.d.s, ← hs.d.p] at h
  rw [← hs.d.s, ← hs.d.p]
  exact h

end Go.Proofs.Ytnneodofajhbcaa

namespace Go.Proofs.Ytnneodofajhbcaa
open Go.RowKit
open KM
attribute [local go_sem ↓] Go.wp_at_zero Go.wp_at_succ

theorem mkL_at (ys : List Ta) (k k0 : Nat) (h : k < ys.length) : (mkL ys k0)[k]'(by rw [mkL_len]; exact h) = mkTa ys[k] (k0 + wtL (ys.take k)) := by
  have e : ys = ys.take k ++ ys[k] :: ys.drop (k + 1) := by rw [← List.drop_eq_getElem_cons h, List.take_append_drop]
  have h1 : (mkL ys k0)[k]? = some (mkTa ys[k] (k0 + wtL (ys.take k))) := by
    conv => lhs; rw [e]
    rw [mkL_app, List.getElem?_append_right (by rw [mkL_len, List.length_take]; omega), mkL_len, List.length_take]
    have : k - min k ys.length = 0 := by omega
    rw [this]
    simp [mkL]
  have h2 := List.getElem?_eq_getElem (show k < (mkL ys k0).length by rw [mkL_len]; exact h)
  rw [h2] at h1
  exact Option.some.inj h1

set_option maxRecDepth 100000 in
set_option maxHeartbeats 6000000 in
theorem heldL (ys : List Ta) (a : Option Addr) (c n k0 : Nat) (hn : n = ys.length) (hnn : n ≤ 1048576) (hf : ∀ y ∈ ys, TFit y.t) (hk0 : 0 < k0) (hk1 : k0 ≤ 10000000000000000) (w : World) (h : TRows w a (mkL ys k0)) :
    Calls Try.prog 29 #[.slice a n c, .int .i64 k0] w fun e w' => e = .returned (.int .i64 ((k0 + wtL ys : Nat) : Int)) ∧ Below w.heap.size w w' := by
  have HN : Hid (n = ys.length) := hn
  have HF : Hid (∀ y ∈ ys, TFit y.t) := hf
  have HWB : Hid (wtL ys ≤ 5600000000000) := by show _ ≤ _; have h1 := wtL_fit ys hf; have h2 : ys.length * 5242886 ≤ 1048576 * 5242886 := Nat.mul_le_mul_right _ (by omega); omega
  have HP : Hid (TRows w a (mkL ys k0)) := h
  clear h hn hf
  go_enter Try.func29, Try.ntmps29
  go_wp2
  go_loopw [1, 5] (fun tk t wr => ∃ (k z : Nat), k ≤ n ∧ t = .int .i64 k ∧ tk = .int .i64 z ∧ Hid (z = k0 + wtL (ys.take k)) ∧ Hid (Below w.heap.size w wr)) (fun _ t _ => n - (intOf t).toNat)
  case atStart => exact ⟨0, k0, Nat.zero_le _, rfl, rfl, rfl, belowRefl w⟩
  case round =>
    obtain ⟨k, q0, hk, rfl, rfl, HQ, HB⟩ := hrel
    by_cases hlt : k < n
    · have hlt' : (k : Int) < (n : Int) := by omega
      have h0 : (0 : Int) ≤ (k : Int) := by omega
      have hky : k < ys.length := by rw [← HN.out]; exact hlt
      have hq0 : 0 < q0 := by have := HQ.out; omega
      have hq1 : q0 ≤ 20000000000000000 := by have := HQ.out; have := wtL_take ys k; have := HWB.out; omega
      have HNX : Hid (q0 + wt ys[k] = k0 + wtL (ys.take (k + 1))) := by show _ = _; rw [HQ.out, wtL_next ys k hky]; omega
      have hfx := HF.out _ (List.getElem_mem hky)
      obtain ⟨b, o, rfl, hbl, hc, hrow⟩ := (HP.out.below HB.out).cls k (by rw [mkL_len]; exact hky)
      rw [mkL_at ys k k0 hky, ← HQ.out] at hc hrow
      obtain ⟨x, hx⟩ : ∃ x, x = ys[k] := ⟨_, rfl⟩
      rw [← hx] at HNX hfx hc hrow
      clear hx
      have hr8 : x.t.rs.length ≤ 1048576 := hfx.1
      have hw8 : x.t.ws.length ≤ 1048576 := hfx.2.2.1
      have RR : Hid (GRow encR wr x.ra (mkR (q0 + 4) x.t.rs.length)) := hrow.r
      have RW : Hid (GRow encW wr x.wa (mkW (q0 + 4 + 2 * x.t.rs.length) x.t.ws.length)) := hrow.w
      have r0 : wr.cell? ⟨b, o + k * 8, none⟩ = some (.int .i64 ((q0 : Int))) := by rw [hc.c0]; congr 2
      have n0 := ne_self_int ((q0 : Int))
      have r1 : wr.cell? ⟨b, o + k * 8 + 1, none⟩ = some (.int .i64 ((q0 : Int) + 1)) := by rw [hc.c1]; congr 2
      have n1 := ne_self_int ((q0 : Int) + 1)
      have r2 : wr.cell? ⟨b, o + k * 8 + 2, none⟩ = some (.int .i64 ((q0 : Int) + 1 + 1)) := by rw [hc.c2]; congr 2
      have n2 := ne_self_int ((q0 : Int) + 1 + 1)
      have r3 : wr.cell? ⟨b, o + k * 8 + 3, none⟩ = some (.int .i64 ((q0 : Int) + 1 + 1 + 1)) := by rw [hc.c3]; congr 2
      have n3 := ne_self_int ((q0 : Int) + 1 + 1 + 1)
      have r4 : wr.cell? ⟨b, o + k * 8 + 4, none⟩ = some (.slice x.ra x.t.rs.length x.rc) := by rw [hc.c4]; congr 2; exact mkR_len _ _
      have C5 : Hid (wr.cell? ⟨b, o + k * 8 + 5, none⟩ = some (.slice x.wa x.t.ws.length x.wc)) := by show _ = _; rw [hc.c5]; congr 2; exact mkW_len _ _
      have C6 : Hid (wr.cell? ⟨b, o + k * 8 + 6, none⟩ = some (.bool (ouQ (q0 + 4 + 2 * x.t.rs.length + 3 * x.t.ws.length)))) := hc.c6
      have C7 : Hid (wr.cell? ⟨b, o + k * 8 + 7, none⟩ = some (.string (mkB (q0 + 4 + 2 * x.t.rs.length + 3 * x.t.ws.length + 1)))) := hc.c7
      have E4 : Hid ((q0 : Int) + 1 + 1 + 1 + 1 = ((q0 + 4 : Nat) : Int)) := by show _ = _; omega
      clear hc hrow hfx
      go_wp2_with fail
      rw [E4.out]
      refine (heldR x.t.rs.length (q0 + 4) x.ra x.rc (by omega) (by omega) (by omega) _ RR.out).mono ?_
      rintro e w1 ⟨rfl, hb⟩
      have HB1 : Hid (Below wr.heap.size wr w1) := hb
      clear hb r0 r1 r2 r3 r4 n0 n1 n2 n3 E4 RR
      obtain ⟨k4, hk4⟩ : ∃ k4, k4 = q0 + 4 + 2 * x.t.rs.length := ⟨_, rfl⟩
      rw [← hk4] at RW C6 C7 ⊢
      have HK4 : Hid (k4 = q0 + 4 + 2 * x.t.rs.length) := hk4
      have hk40 : 0 < k4 := by omega
      have hk41 : k4 ≤ 30000000000000000 := by omega
      have hk4n : ¬ (k4 : Int) < 0 := by omega
      clear hk4
      have r5 := (HB1.out.cell (p := ⟨b, o + k * 8 + 5, none⟩) hbl).trans C5.out
      go_wp2_with fail
      refine (heldW x.t.ws.length k4 x.wa x.wc (by omega) (by omega) (by omega) _ (RW.out.below HB1.out)).mono ?_
      rintro e w2 ⟨rfl, hb⟩
      have HB2 : Hid (Below wr.heap.size wr w2) := HB1.out.trans (hb.mono HB1.out.size)
      clear hb r5 RW C5 HB1
      obtain ⟨k5, hk5⟩ : ∃ k5, k5 = k4 + 3 * x.t.ws.length := ⟨_, rfl⟩
      rw [← hk5] at C6 C7 ⊢
      have HK5 : Hid (k5 = q0 + 4 + 2 * x.t.rs.length + 3 * x.t.ws.length) := by show _ = _; rw [hk5, HK4.out]
      have hk50 : 0 < k5 := by omega
      have hk51 : k5 ≤ 40000000000000000 := by omega
      have hk5n : ¬ (k5 : Int) < 0 := by omega
      clear hk5
      have r6 := (HB2.out.cell (p := ⟨b, o + k * 8 + 6, none⟩) hbl).trans C6.out
      have r7 := (HB2.out.cell (p := ⟨b, o + k * 8 + 7, none⟩) hbl).trans C7.out
      have eg := ouQ_eq k5
      have bg := bne_self' (ouQ k5)
      have E5 : Hid ((k5 : Int) + 1 = ((k5 + 1 : Nat) : Int)) := by show _ = _; omega
      have e5 : IntKind.i64.wrap ((k5 : Int) + 1) = (k5 : Int) + 1 := by rw [IntKind.wrap_i64]; omega
      have tn := bne_text (mkB (k5 + 1))
      go_wp2
      refine wp_region_held_drew (S := fun w' => w'.cell? ⟨b, o + k * 8 + 7, none⟩ = some (.string (mkB (k5 + 1)))) (by kernel_rfl) r7 (fun hHeld => ?_)
      (refine wpAnyH_take (i := 0) (v := ?_) rfl (by kernel_rfl) (by kernel_rfl) (by kernel_rfl) (fun _ _ _ h => h) (Or.inl ⟨by rfl, ?_⟩) (by assumption) ?_; rotate_left; (focus (intro w hSw; (try dsimp only at hSw); go_simp; (try with_reducible rfl); done)); simp only [Act.put, List.getElem_toArray, List.getElem_cons_zero, List.setIfInBounds_toArray, List.set_cons_zero, List.set_cons_succ])
      (refine wpAnyH_take (i := 1) (v := ?_) rfl (by kernel_rfl) (by kernel_rfl) (by kernel_rfl) (fun _ _ _ h => h) (Or.inl ⟨by rfl, ?_⟩) (by assumption) ?_; rotate_left; (focus (intro w hSw; (try dsimp only at hSw); go_simp; (try with_reducible rfl); done)); simp only [Act.put, List.getElem_toArray, List.getElem_cons_zero, List.getElem_cons_succ, List.setIfInBounds_toArray, List.set_cons_zero, List.set_cons_succ])
      (refine wpAnyH_take (i := 2) (v := ?_) rfl (by kernel_rfl) (by kernel_rfl) (by kernel_rfl) (fun _ _ _ h => h) (Or.inl ⟨by rfl, ?_⟩) (by assumption) ?_; rotate_left; (focus (intro w hSw; (try dsimp only at hSw); go_simp; (try with_reducible rfl); done)); simp only [Act.put, List.getElem_toArray, List.getElem_cons_zero, List.getElem_cons_succ, List.setIfInBounds_toArray, List.set_cons_zero, List.set_cons_succ])
      (refine wpAnyH_take (i := 3) (v := ?_) rfl (by kernel_rfl) (by kernel_rfl) (by kernel_rfl) (fun _ _ _ h => h) (Or.inl ⟨by rfl, ?_⟩) (by assumption) ?_; rotate_left; (focus (intro w hSw; (try dsimp only at hSw); go_simp; (try with_reducible rfl); done)); simp only [Act.put, List.getElem_toArray, List.getElem_cons_zero, List.getElem_cons_succ, List.setIfInBounds_toArray, List.set_cons_zero, List.set_cons_succ])
      (refine wpAnyH_take (i := 4) (v := ?_) rfl (by kernel_rfl) (by kernel_rfl) (by kernel_rfl) (fun _ _ _ h => h) (Or.inl ⟨by rfl, ?_⟩) (by assumption) ?_; rotate_left; (focus (intro w hSw; (try dsimp only at hSw); go_simp; (try with_reducible rfl); done)); simp only [Act.put, List.getElem_toArray, List.getElem_cons_zero, List.getElem_cons_succ, List.setIfInBounds_toArray, List.set_cons_zero, List.set_cons_succ])
      (refine wpAnyH_take (i := 5) (v := ?_) rfl (by kernel_rfl) (by kernel_rfl) (by kernel_rfl) (fun _ _ _ h => h) (Or.inl ⟨by rfl, ?_⟩) (by assumption) ?_; rotate_left; (focus (intro w hSw; (try dsimp only at hSw); go_simp; (try with_reducible rfl); done)); simp only [Act.put, List.getElem_toArray, List.getElem_cons_zero, List.getElem_cons_succ, List.setIfInBounds_toArray, List.set_cons_zero, List.set_cons_succ])
      refine wpAnyH_ready (rs := [6]) (by kernel_rfl) (by simp) ?_
      refine AllReadyH.cons rfl (fun K hK => ?_) AllReadyH.nil
      go_simp
      go_wp2_with fail
      rw [E5.out]
      refine (mark87 (k5 + 1) (by omega) (by omega) _).mono ?_
      rintro e w3 ⟨rfl, hbm⟩
      have HB3 : Hid (Below wr.heap.size wr w3) := HB2.out.trans ((undrew hbm).mono HB2.out.size)
      clear hbm
      have s7 := (HB3.out.cell (p := ⟨b, o + k * 8 + 7, none⟩) hbl).trans C7.out
      go_wp2_with fail
      refine hK.out _ _ s7 (fun hHeld2 => ?_)
      clear hK K
      (refine wpAnyH_take (i := 7) (v := ?_) rfl (by kernel_rfl) (by kernel_rfl) (by kernel_rfl) (fun _ _ _ h => h) (Or.inl ⟨by rfl, ?_⟩) (by assumption) ?_; rotate_left; (focus (intro w hSw; (try dsimp only at hSw); go_simp; (try with_reducible rfl); done)); simp only [Act.put, List.getElem_toArray, List.getElem_cons_zero, List.getElem_cons_succ, List.setIfInBounds_toArray, List.set_cons_zero, List.set_cons_succ])
      refine wpAnyH_done (by kernel_rfl) ?_ _
      have HZ2 : Hid (k5 + 2 = k0 + wtL (ys.take (k + 1))) := by show _ = _; rw [← HNX.out, HK5.out]; unfold wt; omega
      have en : (k5 : Int) + 1 + 1 = ((k5 + 2 : Nat) : Int) := by omega
      have HBn : Hid (Below w.heap.size w w3) := HB.out.trans (HB3.out.mono HB.out.size)
      clear r6 r7 s7 C6 C7
      go_wp2
      go_roundw
      case rel => exact ⟨k + 1, k5 + 2, by omega, by go_num, by go_num, HZ2, HBn⟩
      case measure => simp [intOf]; omega
    · have hd : ¬ (k : Int) < (n : Int) := by omega
      have eT : ys.take k = ys := List.take_of_length_le (by rw [← HN.out]; omega)
      rw [eT] at HQ
      have HE : Hid (q0 = k0 + wtL ys) := HQ.out
      clear HQ eT
      go_wp2
      go_ret
      exact ⟨ret_int (by have := HE.out; omega), HB.out⟩

end Go.Proofs.Ytnneodofajhbcaa
