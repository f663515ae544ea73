/- An engine: how it lies, its size, its likeness. -/
import Derived.Test.YtnneodofajhbcaaB3
namespace Go.Proofs.Ytnneodofajhbcaa
open Go.RowKit
open KM
attribute [local go_sem ↓] Go.wp_at_zero Go.wp_at_succ

/-- an engine, and where its rows lie -/
structure En where
  b : Bb
  os : List Ta
  oa : Option Addr
  oc : Nat
/-- what can be read of it -/
structure EnRows (w : World) (e : En) : Prop where
  b : BRows w e.b
  o : TRows w e.oa e.os
theorem EnRows.below {w w' : World} {e : En} (h : EnRows w e) (hb : Below w.heap.size w w') : EnRows w' e := ⟨h.b.below hb, h.o.below hb⟩
theorem EnRows.drewE {w : World} {e : En} (h : EnRows w e) : EnRows w.drew e := ⟨h.b.drewB, h.o.drewS⟩
/-- an engine that is handed in -/
structure EnArg (w : World) (e : En) : Prop where
  b : BArg w e.b
  o : LArg w e.oa e.os
theorem EnArg.below {w w' : World} {e : En} (h : EnArg w e) (hb : Below w.heap.size w w') : EnArg w' e := ⟨h.b.below hb, h.o.below hb⟩
theorem EnArg.rows {w : World} {e : En} (h : EnArg w e) : EnRows w e := ⟨h.b.rows, h.o.rows⟩
/-- texts and lists that are not too long -/
structure EnFit (e : En) : Prop where
  b : BFit e.b
  o : LFit (txs e.os)
theorem EnFit.ol {e : En} (h : EnFit e) : e.os.length ≤ 1048576 := by have := h.o.1; rwa [txs_len] at this
/-- the same, wherever it lies -/
structure EnSame (e c : En) : Prop where
  b : BSame e.b c.b
  o : txs c.os = txs e.os
theorem EnSame.ol {e c : En} (h : EnSame e c) : c.os.length = e.os.length := by rw [← txs_len, h.o, txs_len]
theorem EnSame.fit {e c : En} (h : EnSame e c) (hf : EnFit e) : EnFit c := ⟨h.b.fit hf.b, by rw [h.o]; exact hf.o⟩
theorem EnSame.trans {e c d : En} (h : EnSame e c) (k : EnSame c d) : EnSame e d := ⟨h.b.trans k.b, k.o.trans h.o⟩
theorem EnSame.symm {e c : En} (h : EnSame e c) : EnSame c e := ⟨h.b.symm, h.o.symm⟩
/-- an engine in memory of its own -/
structure EnLie (w : World) (lo hi : Nat) (c : En) : Prop where
  ex : ∃ m, lo ≤ m ∧ m ≤ hi ∧ BLie w lo m c.b ∧ LLie w m hi (.slice c.oa c.os.length c.oc) c.os
theorem EnLie.rows {w : World} {lo hi : Nat} {c : En} (h : EnLie w lo hi c) : EnRows w c := by
  obtain ⟨m, _, _, h1, h2⟩ := h.ex
  exact ⟨h1.rows, h2.rows⟩
theorem EnLie.below {w w' : World} {lo hi : Nat} {c : En} (h : EnLie w lo hi c) (hb : Below w.heap.size w w') : EnLie w' lo hi c := by
  obtain ⟨m, a, b, h1, h2⟩ := h.ex
  exact ⟨m, a, b, h1.below hb, h2.below hb⟩
theorem EnLie.set {w : World} {lo hi : Nat} {c : En} (h : EnLie w lo hi c) {a : Addr} (ha : a.block < lo) (u : Value) : EnLie (w.setCell a u) lo hi c := by
  obtain ⟨m, k1, k2, h1, h2⟩ := h.ex
  exact ⟨m, k1, k2, h1.set ha u, h2.set (by omega) u⟩
theorem EnLie.mono {w : World} {lo hi lo' hi' : Nat} {c : En} (h : EnLie w lo hi c) (k : lo' ≤ lo) (k' : hi ≤ hi') : EnLie w lo' hi' c := by
  obtain ⟨m, k1, k2, h1, h2⟩ := h.ex
  exact ⟨m, by omega, by omega, h1.mono k (Nat.le_refl _), h2.mono (Nat.le_refl _) k'⟩
theorem EnLie.zn {w w' : World} {lo hi l h : Nat} {c : En} (k : EnLie w lo hi c) (hz : Zn l h w w') (hne : hi ≤ l ∨ h ≤ lo) : EnLie w' lo hi c := by
  obtain ⟨m, k1, k2, h1, h2⟩ := k.ex
  exact ⟨m, k1, k2, h1.zn hz (by omega), h2.zn hz (by omega)⟩

set_option maxRecDepth 100000 in
set_option maxHeartbeats 2000000 in
theorem eqE0 (e c : En) (hs : EnSame e c) (hf : EnFit e) (w : World) (hp : EnRows w e) (hq : EnRows w c) :
    Calls Try.prog 36 #[.agg #[.slice e.b.va e.b.vs.length e.b.vc, .slice e.b.pa e.b.ps.length e.b.pc, .slice e.b.qa e.b.qs.length e.b.qc, .int .i64 e.b.cs, .int .i64 e.b.nx, .slice e.oa e.os.length e.oc], .agg #[.slice c.b.va e.b.vs.length c.b.vc, .slice c.b.pa e.b.ps.length c.b.pc, .slice c.b.qa e.b.qs.length c.b.qc, .int .i64 e.b.cs, .int .i64 e.b.nx, .slice c.oa e.os.length c.oc]] w fun ex w' => ex = .returned (.bool true) ∧ Below w.heap.size w w' := by
  have HP : Hid (EnRows w e) := hp
  have HQ : Hid (EnRows w c) := hq
  have HS : Hid (EnSame e c) := hs
  have HF : Hid (EnFit e) := hf
  clear hp hq hs hf
  have BA0 : Hid (Bx ((w.alloc (.cells #[.slice e.b.va e.b.vs.length e.b.vc, .slice e.b.pa e.b.ps.length e.b.pc, .slice e.b.qa e.b.qs.length e.b.qc, .int .i64 e.b.cs, .int .i64 e.b.nx, .slice e.oa e.os.length e.oc] 36)).alloc (.cells #[.slice c.b.va e.b.vs.length c.b.vc, .slice c.b.pa e.b.ps.length c.b.pc, .slice c.b.qa e.b.qs.length c.b.qc, .int .i64 e.b.cs, .int .i64 e.b.nx, .slice c.oa e.os.length c.oc] 36)) w.heap.size [.slice e.b.va e.b.vs.length e.b.vc, .slice e.b.pa e.b.ps.length e.b.pc, .slice e.b.qa e.b.qs.length e.b.qc, .int .i64 e.b.cs, .int .i64 e.b.nx, .slice e.oa e.os.length e.oc]) := (Bx.new w [.slice e.b.va e.b.vs.length e.b.vc, .slice e.b.pa e.b.ps.length e.b.pc, .slice e.b.qa e.b.qs.length e.b.qc, .int .i64 e.b.cs, .int .i64 e.b.nx, .slice e.oa e.os.length e.oc] 36).alloc _
  have BB0 : Hid (Bx ((w.alloc (.cells #[.slice e.b.va e.b.vs.length e.b.vc, .slice e.b.pa e.b.ps.length e.b.pc, .slice e.b.qa e.b.qs.length e.b.qc, .int .i64 e.b.cs, .int .i64 e.b.nx, .slice e.oa e.os.length e.oc] 36)).alloc (.cells #[.slice c.b.va e.b.vs.length c.b.vc, .slice c.b.pa e.b.ps.length c.b.pc, .slice c.b.qa e.b.qs.length c.b.qc, .int .i64 e.b.cs, .int .i64 e.b.nx, .slice c.oa e.os.length c.oc] 36)) (w.heap.size + 1) [.slice c.b.va e.b.vs.length c.b.vc, .slice c.b.pa e.b.ps.length c.b.pc, .slice c.b.qa e.b.qs.length c.b.qc, .int .i64 e.b.cs, .int .i64 e.b.nx, .slice c.oa e.os.length c.oc]) := by
    have h := Bx.new (w.alloc (.cells #[.slice e.b.va e.b.vs.length e.b.vc, .slice e.b.pa e.b.ps.length e.b.pc, .slice e.b.qa e.b.qs.length e.b.qc, .int .i64 e.b.cs, .int .i64 e.b.nx, .slice e.oa e.os.length e.oc] 36)) [.slice c.b.va e.b.vs.length c.b.vc, .slice c.b.pa e.b.ps.length c.b.pc, .slice c.b.qa e.b.qs.length c.b.qc, .int .i64 e.b.cs, .int .i64 e.b.nx, .slice c.oa e.os.length c.oc] 36
    rw [World.size_alloc] at h
    exact h
  have HB0 : Hid (Below w.heap.size w ((w.alloc (.cells #[.slice e.b.va e.b.vs.length e.b.vc, .slice e.b.pa e.b.ps.length e.b.pc, .slice e.b.qa e.b.qs.length e.b.qc, .int .i64 e.b.cs, .int .i64 e.b.nx, .slice e.oa e.os.length e.oc] 36)).alloc (.cells #[.slice c.b.va e.b.vs.length c.b.vc, .slice c.b.pa e.b.ps.length c.b.pc, .slice c.b.qa e.b.qs.length c.b.qc, .int .i64 e.b.cs, .int .i64 e.b.nx, .slice c.oa e.os.length c.oc] 36))) := ((belowRefl w).alloc (Nat.le_refl _) _).alloc (by simp) _
  have CB : Hid (∀ W : World, Below w.heap.size w W → Calls Try.prog 53 #[.agg #[.slice e.b.va e.b.vs.length e.b.vc, .slice e.b.pa e.b.ps.length e.b.pc, .slice e.b.qa e.b.qs.length e.b.qc, .int .i64 e.b.cs, .int .i64 e.b.nx], .agg #[.slice c.b.va e.b.vs.length c.b.vc, .slice c.b.pa e.b.ps.length c.b.pc, .slice c.b.qa e.b.qs.length c.b.qc, .int .i64 e.b.cs, .int .i64 e.b.nx]] W fun ex w' => ex = .returned (.bool true) ∧ Below W.heap.size W w') := fun W h => eqB0 e.b c.b HS.out.b HF.out.b W (HP.out.b.below h) (HQ.out.b.below h)
  have CO : Hid (∀ W : World, Below w.heap.size w W → Calls Try.prog 22 #[.slice e.oa e.os.length e.oc, .slice c.oa e.os.length c.oc] W fun ex w' => ex = .returned (.bool true) ∧ Below W.heap.size W w') := fun W h => eqL e.os c.os e.oa c.oa e.oc c.oc e.os.length rfl HS.out.ol.symm (Nat.le_trans HF.out.ol (by omega)) HS.out.o.symm HF.out.o W (HP.out.o.below h) (HQ.out.o.below h)
  clear HP HQ HS HF
  go_enter Try.func36, Try.ntmps36
  go_wp2_with fail
  refine (CB.out _ HB0.out).mono ?_
  rintro ex w1 ⟨rfl, hb1⟩
  have BA1 : Hid (Bx w1 w.heap.size [.slice e.b.va e.b.vs.length e.b.vc, .slice e.b.pa e.b.ps.length e.b.pc, .slice e.b.qa e.b.qs.length e.b.qc, .int .i64 e.b.cs, .int .i64 e.b.nx, .slice e.oa e.os.length e.oc]) := BA0.out.below hb1
  have BB1 : Hid (Bx w1 (w.heap.size + 1) [.slice c.b.va e.b.vs.length c.b.vc, .slice c.b.pa e.b.ps.length c.b.pc, .slice c.b.qa e.b.qs.length c.b.qc, .int .i64 e.b.cs, .int .i64 e.b.nx, .slice c.oa e.os.length c.oc]) := BB0.out.below hb1
  have HB1 : Hid (Below w.heap.size w w1) := HB0.out.trans (hb1.mono HB0.out.size)
  clear hb1 BA0 BB0 HB0
  have x5 := BA1.out.c5
  have y5 := BB1.out.c5
  go_wp2_with fail
  refine (CO.out _ HB1.out).mono ?_
  rintro ex w2 ⟨rfl, hb2⟩
  have HB2 : Hid (Below w.heap.size w w2) := HB1.out.trans (hb2.mono HB1.out.size)
  clear hb2
  go_wp2
  go_ret
  exact ⟨rfl, HB2.out⟩

theorem eqE (e c : En) (hs : EnSame e c) (hf : EnFit e) (w : World) (hp : EnRows w e) (hq : EnRows w c) :
    Calls Try.prog 36 #[.agg #[.slice e.b.va e.b.vs.length e.b.vc, .slice e.b.pa e.b.ps.length e.b.pc, .slice e.b.qa e.b.qs.length e.b.qc, .int .i64 e.b.cs, .int .i64 e.b.nx, .slice e.oa e.os.length e.oc], .agg #[.slice c.b.va c.b.vs.length c.b.vc, .slice c.b.pa c.b.ps.length c.b.pc, .slice c.b.qa c.b.qs.length c.b.qc, .int .i64 c.b.cs, .int .i64 c.b.nx, .slice c.oa c.os.length c.oc]] w fun ex w' => ex = .returned (.bool true) ∧ Below w.heap.size w w' := by
  have h := eqE0 e c hs hf w hp hq
  rw [← hs.b.cs, ← hs.b.nx, ← hs.ol] at h
  rw [← hs.b.cs, ← hs.b.nx, ← hs.ol]
  rw [← hs.b.vl, ← hs.b.pl, ← hs.b.ql] at h
  rw [← hs.b.vl, ← hs.b.pl, ← hs.b.ql]
  exact h

end Go.Proofs.Ytnneodofajhbcaa
