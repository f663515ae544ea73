/- A store: how it lies, its size, its likeness. -/
import Derived.Test.YtjieojfcmigcdaaGreatDoorPw20
import Derived.Test.YtjieojfcmigcdaaGreatDoorPw21
namespace Go.Proofs.YtjieojfcmigcdaaGreatDoor
open Go.RowKit
open KM
attribute [local go_sem ↓] Go.wp_at_zero Go.wp_at_succ

structure Dk where
 ss : List ByteArray
 ps : List Wr
 sa : Option Addr
 sc : Nat
 pa : Option Addr
 pc : Nat
structure DRows (w : World) (d : Dk) : Prop where
 s : SRow w d.sa d.ss
 p : PRow w d.pa d.ps
theorem DRows.below {w w' : World} {d : Dk} (h : DRows w d) (hb : Below w.heap.size w w') : DRows w' d := ⟨h.s.below hb, h.p.below hb⟩
structure DArg (w : World) (d : Dk) : Prop where
 sl : d.ss.length ≤ 9223372036854775807
 st : ∀ s ∈ d.ss, s.size ≤ 9223372036854775807
 pl : d.ps.length ≤ 9223372036854775807
 pt : ∀ p ∈ d.ps, p.2.size ≤ 9223372036854775807
 rows : DRows w d
theorem DArg.below {w w' : World} {d : Dk} (h : DArg w d) (hb : Below w.heap.size w w') : DArg w' d := ⟨h.sl, h.st, h.pl, h.pt, h.rows.below hb⟩
structure DSame (d c : Dk) : Prop where
 s : c.ss = d.ss
 p : c.ps = d.ps
theorem DSame.trans {d c k : Dk} (h : DSame d c) (q : DSame c k) : DSame d k := ⟨q.s.trans h.s, q.p.trans h.p⟩
theorem DSame.symm {d c : Dk} (h : DSame d c) : DSame c d := ⟨h.s.symm, h.p.symm⟩
def DFit (d : Dk) : Prop := Fits d.ss d.ps
theorem DSame.fit {d c : Dk} (h : DSame d c) (hf : DFit d) : DFit c := by unfold DFit; rw [h.s, h.p]; exact hf
structure DLie (w : World) (lo hi : Nat) (d : Dk) : Prop where
 s : SOwn w lo (.slice d.sa d.ss.length d.sc) d.ss
 p : POwn w lo (.slice d.pa d.ps.length d.pc) d.ps
 su : ∀ g, (Value.slice d.sa d.ss.length d.sc).ownBlock = some g → g < hi
 pu : ∀ g, (Value.slice d.pa d.ps.length d.pc).ownBlock = some g → g < hi
theorem own_lo {w : World} {base e size n : Nat} {v : Value} {xs : List Value} (h : w.ownsRow base e size v n xs) (g : Nat) (hg : v.ownBlock = some g) : base ≤ g ∧ g < w.heap.size := by
 obtain ⟨_, h2⟩ := h
 rcases h2 with h2 | ⟨g', cap, cur, hv, hb, hh, _⟩
 ·rw [h2.1] at hg; simp [Value.ownBlock] at hg
 ·rw [hv] at hg
  simp [Value.ownBlock] at hg
  subst hg
  exact ⟨hb, (Array.getElem?_eq_some_iff.1 hh).1⟩
theorem DLie.rows {w : World} {lo hi : Nat} {d : Dk} (h : DLie w lo hi d) : DRows w d := ⟨h.s.srow, h.p.prow⟩
theorem DLie.below {w w' : World} {lo hi : Nat} {d : Dk} (h : DLie w lo hi d) (hb : Below w.heap.size w w') : DLie w' lo hi d := ⟨h.s.below hb, h.p.below hb, h.su, h.pu⟩
theorem DLie.set {w : World} {lo hi : Nat} {d : Dk} (h : DLie w lo hi d) {a : Addr} (ha : a.block < lo) (u : Value) : DLie (w.setCell a u) lo hi d := ⟨h.s.set ha u, h.p.set ha u, h.su, h.pu⟩
theorem DLie.mono {w : World} {lo hi lo' hi' : Nat} {d : Dk} (h : DLie w lo hi d) (k : lo' ≤ lo) (k' : hi ≤ hi') : DLie w lo' hi' d := ⟨h.s.mono k, h.p.mono k, fun g q => Nat.lt_of_lt_of_le (h.su g q) k', fun g q => Nat.lt_of_lt_of_le (h.pu g q) k'⟩
theorem DLie.of {w : World} {lo : Nat} {a1 a2 : Option Addr} {c1 c2 : Nat} {ss : List ByteArray} {ps : List Wr} (h : DOwn w lo a1 c1 a2 c2 ss ps) : DLie w lo w.heap.size ⟨ss, ps, a1, c1, a2, c2⟩ :=
 ⟨h.s, h.p, fun g hg => (own_lo h.s g hg).2, fun g hg => (own_lo h.p g hg).2⟩
structure St where
 e : En
 d : Dk
structure StRows (w : World) (s : St) : Prop where
 e : EnRows w s.e
 d : DRows w s.d
theorem StRows.below {w w' : World} {s : St} (h : StRows w s) (hb : Below w.heap.size w w') : StRows w' s := ⟨h.e.below hb, h.d.below hb⟩
structure StArg (w : World) (s : St) : Prop where
 e : EnArg w s.e
 d : DArg w s.d
theorem StArg.below {w w' : World} {s : St} (h : StArg w s) (hb : Below w.heap.size w w') : StArg w' s := ⟨h.e.below hb, h.d.below hb⟩
theorem StArg.rows {w : World} {s : St} (h : StArg w s) : StRows w s := ⟨h.e.rows, h.d.rows⟩
structure StFit (s : St) : Prop where
 e : EnFit s.e
 d : DFit s.d
structure StSame (s c : St) : Prop where
 e : EnSame s.e c.e
 d : DSame s.d c.d
theorem StSame.fit {s c : St} (h : StSame s c) (hf : StFit s) : StFit c := ⟨h.e.fit hf.e, h.d.fit hf.d⟩
theorem StSame.trans {s c k : St} (h : StSame s c) (q : StSame c k) : StSame s k := ⟨h.e.trans q.e, h.d.trans q.d⟩
theorem StSame.symm {s c : St} (h : StSame s c) : StSame c s := ⟨h.e.symm, h.d.symm⟩
structure StLie (w : World) (lo hi : Nat) (s : St) : Prop where
 ex : ∃ m, lo ≤ m ∧ m ≤ hi ∧ EnLie w lo m s.e ∧ DLie w m hi s.d
theorem StLie.rows {w : World} {lo hi : Nat} {s : St} (h : StLie w lo hi s) : StRows w s := by
 obtain ⟨m, _, _, h1, h2⟩ := h.ex
 exact ⟨h1.rows, h2.rows⟩
theorem StLie.below {w w' : World} {lo hi : Nat} {s : St} (h : StLie w lo hi s) (hb : Below w.heap.size w w') : StLie w' lo hi s := by
 obtain ⟨m, a, b, h1, h2⟩ := h.ex
 exact ⟨m, a, b, h1.below hb, h2.below hb⟩
theorem StLie.set {w : World} {lo hi : Nat} {s : St} (h : StLie w lo hi s) {a : Addr} (ha : a.block < lo) (u : Value) : StLie (w.setCell a u) lo hi s := by
 obtain ⟨m, k1, k2, h1, h2⟩ := h.ex
 exact ⟨m, k1, k2, h1.set ha u, h2.set (by omega) u⟩
theorem StLie.mono {w : World} {lo hi lo' hi' : Nat} {s : St} (h : StLie w lo hi s) (k : lo' ≤ lo) (k' : hi ≤ hi') : StLie w lo' hi' s := by
 obtain ⟨m, k1, k2, h1, h2⟩ := h.ex
 exact ⟨m, by omega, by omega, h1.mono k (Nat.le_refl _), h2.mono (Nat.le_refl _) k'⟩
set_option maxRecDepth 100000 in
set_option maxHeartbeats 2000000 in
theorem eqS0 (s c : St) (hs : StSame s c) (hf : StFit s) (w : World) (hp : StRows w s) (hq : StRows w c) :
  Calls Tryz.prog 9 #[.agg #[.slice s.e.b.va s.e.b.vs.length s.e.b.vc, .slice s.e.b.pa s.e.b.ps.length s.e.b.pc, .slice s.e.b.qa s.e.b.qs.length s.e.b.qc, .int .i64 s.e.b.cs, .int .i64 s.e.b.nx, .slice s.e.oa s.e.os.length s.e.oc, .slice s.d.sa s.d.ss.length s.d.sc, .slice s.d.pa s.d.ps.length s.d.pc], .agg #[.slice c.e.b.va s.e.b.vs.length c.e.b.vc, .slice c.e.b.pa s.e.b.ps.length c.e.b.pc, .slice c.e.b.qa s.e.b.qs.length c.e.b.qc, .int .i64 s.e.b.cs, .int .i64 s.e.b.nx, .slice c.e.oa s.e.os.length c.e.oc, .slice c.d.sa s.d.ss.length c.d.sc, .slice c.d.pa s.d.ps.length c.d.pc]] w fun ex w' => ex = .returned (.bool true) ∧ Below w.heap.size w w' := by
 have HP : Hid (StRows w s) := hp
 have HQ : Hid (StRows w c) := hq
 have HS : Hid (StSame s c) := hs
 have HF : Hid (StFit s) := hf
 clear hp hq hs hf
 have BA0 : Hid (Bx ((w.alloc (.cells #[.slice s.e.b.va s.e.b.vs.length s.e.b.vc, .slice s.e.b.pa s.e.b.ps.length s.e.b.pc, .slice s.e.b.qa s.e.b.qs.length s.e.b.qc, .int .i64 s.e.b.cs, .int .i64 s.e.b.nx, .slice s.e.oa s.e.os.length s.e.oc, .slice s.d.sa s.d.ss.length s.d.sc, .slice s.d.pa s.d.ps.length s.d.pc] 46)).alloc (.cells #[.slice c.e.b.va s.e.b.vs.length c.e.b.vc, .slice c.e.b.pa s.e.b.ps.length c.e.b.pc, .slice c.e.b.qa s.e.b.qs.length c.e.b.qc, .int .i64 s.e.b.cs, .int .i64 s.e.b.nx, .slice c.e.oa s.e.os.length c.e.oc, .slice c.d.sa s.d.ss.length c.d.sc, .slice c.d.pa s.d.ps.length c.d.pc] 46)) w.heap.size [.slice s.e.b.va s.e.b.vs.length s.e.b.vc, .slice s.e.b.pa s.e.b.ps.length s.e.b.pc, .slice s.e.b.qa s.e.b.qs.length s.e.b.qc, .int .i64 s.e.b.cs, .int .i64 s.e.b.nx, .slice s.e.oa s.e.os.length s.e.oc, .slice s.d.sa s.d.ss.length s.d.sc, .slice s.d.pa s.d.ps.length s.d.pc]) := (Bx.new w [.slice s.e.b.va s.e.b.vs.length s.e.b.vc, .slice s.e.b.pa s.e.b.ps.length s.e.b.pc, .slice s.e.b.qa s.e.b.qs.length s.e.b.qc, .int .i64 s.e.b.cs, .int .i64 s.e.b.nx, .slice s.e.oa s.e.os.length s.e.oc, .slice s.d.sa s.d.ss.length s.d.sc, .slice s.d.pa s.d.ps.length s.d.pc] 46).alloc _
 have BB0 : Hid (Bx ((w.alloc (.cells #[.slice s.e.b.va s.e.b.vs.length s.e.b.vc, .slice s.e.b.pa s.e.b.ps.length s.e.b.pc, .slice s.e.b.qa s.e.b.qs.length s.e.b.qc, .int .i64 s.e.b.cs, .int .i64 s.e.b.nx, .slice s.e.oa s.e.os.length s.e.oc, .slice s.d.sa s.d.ss.length s.d.sc, .slice s.d.pa s.d.ps.length s.d.pc] 46)).alloc (.cells #[.slice c.e.b.va s.e.b.vs.length c.e.b.vc, .slice c.e.b.pa s.e.b.ps.length c.e.b.pc, .slice c.e.b.qa s.e.b.qs.length c.e.b.qc, .int .i64 s.e.b.cs, .int .i64 s.e.b.nx, .slice c.e.oa s.e.os.length c.e.oc, .slice c.d.sa s.d.ss.length c.d.sc, .slice c.d.pa s.d.ps.length c.d.pc] 46)) (w.heap.size + 1) [.slice c.e.b.va s.e.b.vs.length c.e.b.vc, .slice c.e.b.pa s.e.b.ps.length c.e.b.pc, .slice c.e.b.qa s.e.b.qs.length c.e.b.qc, .int .i64 s.e.b.cs, .int .i64 s.e.b.nx, .slice c.e.oa s.e.os.length c.e.oc, .slice c.d.sa s.d.ss.length c.d.sc, .slice c.d.pa s.d.ps.length c.d.pc]) := by
  have h := Bx.new (w.alloc (.cells #[.slice s.e.b.va s.e.b.vs.length s.e.b.vc, .slice s.e.b.pa s.e.b.ps.length s.e.b.pc, .slice s.e.b.qa s.e.b.qs.length s.e.b.qc, .int .i64 s.e.b.cs, .int .i64 s.e.b.nx, .slice s.e.oa s.e.os.length s.e.oc, .slice s.d.sa s.d.ss.length s.d.sc, .slice s.d.pa s.d.ps.length s.d.pc] 46)) [.slice c.e.b.va s.e.b.vs.length c.e.b.vc, .slice c.e.b.pa s.e.b.ps.length c.e.b.pc, .slice c.e.b.qa s.e.b.qs.length c.e.b.qc, .int .i64 s.e.b.cs, .int .i64 s.e.b.nx, .slice c.e.oa s.e.os.length c.e.oc, .slice c.d.sa s.d.ss.length c.d.sc, .slice c.d.pa s.d.ps.length c.d.pc] 46
  rw [World.size_alloc] at h
  exact h
 have HB0 : Hid (Below w.heap.size w ((w.alloc (.cells #[.slice s.e.b.va s.e.b.vs.length s.e.b.vc, .slice s.e.b.pa s.e.b.ps.length s.e.b.pc, .slice s.e.b.qa s.e.b.qs.length s.e.b.qc, .int .i64 s.e.b.cs, .int .i64 s.e.b.nx, .slice s.e.oa s.e.os.length s.e.oc, .slice s.d.sa s.d.ss.length s.d.sc, .slice s.d.pa s.d.ps.length s.d.pc] 46)).alloc (.cells #[.slice c.e.b.va s.e.b.vs.length c.e.b.vc, .slice c.e.b.pa s.e.b.ps.length c.e.b.pc, .slice c.e.b.qa s.e.b.qs.length c.e.b.qc, .int .i64 s.e.b.cs, .int .i64 s.e.b.nx, .slice c.e.oa s.e.os.length c.e.oc, .slice c.d.sa s.d.ss.length c.d.sc, .slice c.d.pa s.d.ps.length c.d.pc] 46))) := ((belowRefl w).alloc (Nat.le_refl _) _).alloc (by simp) _
 have CB : Hid (∀ W : World, Below w.heap.size w W → Calls Tryz.prog 26 #[.agg #[.slice s.e.b.va s.e.b.vs.length s.e.b.vc, .slice s.e.b.pa s.e.b.ps.length s.e.b.pc, .slice s.e.b.qa s.e.b.qs.length s.e.b.qc, .int .i64 s.e.b.cs, .int .i64 s.e.b.nx, .slice s.e.oa s.e.os.length s.e.oc], .agg #[.slice c.e.b.va s.e.b.vs.length c.e.b.vc, .slice c.e.b.pa s.e.b.ps.length c.e.b.pc, .slice c.e.b.qa s.e.b.qs.length c.e.b.qc, .int .i64 s.e.b.cs, .int .i64 s.e.b.nx, .slice c.e.oa s.e.os.length c.e.oc]] W fun ex w' => ex = .returned (.bool true) ∧ Below W.heap.size W w') := fun W h => eqE0 s.e c.e HS.out.e HF.out.e W (HP.out.e.below h) (HQ.out.e.below h)
 have CO : Hid (∀ W : World, Below w.heap.size w W → Calls Tryz.prog 27 #[.agg #[.slice s.d.sa s.d.ss.length s.d.sc, .slice s.d.pa s.d.ps.length s.d.pc], .agg #[.slice c.d.sa s.d.ss.length c.d.sc, .slice c.d.pa s.d.ps.length c.d.pc]] W fun ex w' => ex = .returned (.bool true) ∧ Below W.heap.size W w') := fun W h => eq40 s.d.sa s.d.pa c.d.sa c.d.pa s.d.sc s.d.pc c.d.sc c.d.pc s.d.ss s.d.ps (Nat.le_trans HF.out.d.1 (by omega)) (Nat.le_trans HF.out.d.2.1 (by omega)) W (HP.out.d.s.below h) (HP.out.d.p.below h) (by have k := HQ.out.d.s; rw [HS.out.d.s] at k; exact k.below h) (by have k := HQ.out.d.p; rw [HS.out.d.p] at k; exact k.below h)
 clear HP HQ HS HF
 go_enter Tryz.func9, Tryz.ntmps9
 go_wp2_with fail
 refine (CB.out _ HB0.out).mono ?_
 rintro ex w1 ⟨rfl, hb1⟩
 have BA1 : Hid (Bx w1 w.heap.size [.slice s.e.b.va s.e.b.vs.length s.e.b.vc, .slice s.e.b.pa s.e.b.ps.length s.e.b.pc, .slice s.e.b.qa s.e.b.qs.length s.e.b.qc, .int .i64 s.e.b.cs, .int .i64 s.e.b.nx, .slice s.e.oa s.e.os.length s.e.oc, .slice s.d.sa s.d.ss.length s.d.sc, .slice s.d.pa s.d.ps.length s.d.pc]) := BA0.out.below hb1
 have BB1 : Hid (Bx w1 (w.heap.size + 1) [.slice c.e.b.va s.e.b.vs.length c.e.b.vc, .slice c.e.b.pa s.e.b.ps.length c.e.b.pc, .slice c.e.b.qa s.e.b.qs.length c.e.b.qc, .int .i64 s.e.b.cs, .int .i64 s.e.b.nx, .slice c.e.oa s.e.os.length c.e.oc, .slice c.d.sa s.d.ss.length c.d.sc, .slice c.d.pa s.d.ps.length c.d.pc]) := BB0.out.below hb1
 have HB1 : Hid (Below w.heap.size w w1) := HB0.out.trans (hb1.mono HB0.out.size)
 clear hb1 BA0 BB0 HB0
 have x6 := BA1.out.c6
 have y6 := BB1.out.c6
 have x7 := BA1.out.c7
 have y7 := BB1.out.c7
 go_wp2_with fail
 refine (CO.out _ HB1.out).mono ?_
 rintro ex w2 ⟨rfl, hb2⟩
 have HB2 : Hid (Below w.heap.size w w2) := HB1.out.trans (hb2.mono HB1.out.size)
 clear hb2
 go_wp2
 go_ret
 exact ⟨rfl, HB2.out⟩

end Go.Proofs.YtjieojfcmigcdaaGreatDoor
