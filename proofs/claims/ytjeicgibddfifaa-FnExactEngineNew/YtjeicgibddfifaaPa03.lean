/- What laws' sz, to and eq do over rows of versions, and eq over rows of pairs. -/
import Derived.Test.YtjeicgibddfifaaPa02
import Derived.Test.YtjeicgibddfifaaPa01
import Derived.Lib.ItoaNum
import Derived.Lib.ItoaLen
import Derived.Deep.RegionHeld3
import Derived.Deep.Cut
import Derived.Deep.CutRange
namespace Go.Proofs.Ytjeicgibddfifaa
open Go.RowKit
open KM
attribute [local go_sem ↓] Go.wp_at_zero Go.wp_at_succ

set_option maxHeartbeats 400000 in
theorem eqv (x0 : ByteArray) (x1 : ByteArray) (x2 : Bool) (x3 : Int) (w : World) :
  Calls Try.prog 60 #[.agg #[.string x0, .string x1, .bool x2, .int .i64 x3], .agg #[.string x0, .string x1, .bool x2, .int .i64 x3]] w fun e w' => e = .returned (.bool true) ∧ Below w.heap.size w w' := by
 have hbn2 := bne_self' x2
 go_enter Try.func60, Try.ntmps60
 go_wp2
 go_ret
 exact ⟨rfl, ((belowRefl w).alloc (Nat.le_refl _) _).alloc (by simp) _⟩

set_option maxRecDepth 100000 in
set_option maxHeartbeats 1000000 in
theorem eqSV (a1 a2 : Option Addr) (c1 c2 : Nat) (xs : List Vr) (hn : xs.length ≤ 100000000) (w : World) (h1 : GRow encV w a1 xs) (h2 : GRow encV w a2 xs) :
  Calls Try.prog 36 #[.slice a1 xs.length c1, .slice a2 xs.length c2] w fun e w' => e = .returned (.bool true) ∧ Below w.heap.size w w' := by
 have H1 : Hid (GRow encV w a1 xs) := h1
 have H2 : Hid (GRow encV w a2 xs) := h2
 clear h1 h2
 go_enter Try.func36, Try.ntmps36
 go_wp2
 go_loopw [5] (fun t wr => ∃ k : Nat, k ≤ xs.length ∧ t = .int .i64 k ∧ Hid (Below w.heap.size w wr)) (fun t _ => xs.length - (intOf t).toNat)
 case atStart => exact ⟨0, Nat.zero_le _, rfl, Below.refl _ _⟩
 case round =>
  obtain ⟨k, hk, rfl, HB⟩ := hrel
  by_cases hlt : k < xs.length
  ·have hlt' : (k : Int) < (xs.length : Int) := by omega
   have h0 : (0 : Int) ≤ (k : Int) := by omega
   obtain ⟨b1, off1, rfl, hl1, q1⟩ := (H1.out.below HB.out) (by omega)
   obtain ⟨b2, off2, rfl, hl2, q2⟩ := (H2.out.below HB.out) (by omega)
   have r10 := ((vat q1) k hlt).1
   have r11 := ((vat q1) k hlt).2.1
   have r12 := ((vat q1) k hlt).2.2.1
   have r13 := ((vat q1) k hlt).2.2.2
   have r20 := ((vat q2) k hlt).1
   have r21 := ((vat q2) k hlt).2.1
   have r22 := ((vat q2) k hlt).2.2.1
   have r23 := ((vat q2) k hlt).2.2.2
   clear q1 q2
   go_wp2
   go_region_held3 (fun w' => w'.cell? ⟨b1, off1 + k * 4, none⟩ = some (.string xs[k].1) ∧ w'.cell? ⟨b1, off1 + k * 4 + 1, none⟩ = some (.string xs[k].2.1) ∧ w'.cell? ⟨b1, off1 + k * 4 + 2, none⟩ = some (.bool xs[k].2.2.1) ∧ w'.cell? ⟨b1, off1 + k * 4 + 3, none⟩ = some (.int .i64 xs[k].2.2.2) ∧ w'.cell? ⟨b2, off2 + k * 4, none⟩ = some (.string xs[k].1) ∧ w'.cell? ⟨b2, off2 + k * 4 + 1, none⟩ = some (.string xs[k].2.1) ∧ w'.cell? ⟨b2, off2 + k * 4 + 2, none⟩ = some (.bool xs[k].2.2.1) ∧ w'.cell? ⟨b2, off2 + k * 4 + 3, none⟩ = some (.int .i64 xs[k].2.2.2)) (first | go_keep | exact ⟨(hbm.cell (p := ⟨b1, off1 + k * 4, none⟩) hl1).trans r10, (hbm.cell (p := ⟨b1, off1 + k * 4 + 1, none⟩) hl1).trans r11, (hbm.cell (p := ⟨b1, off1 + k * 4 + 2, none⟩) hl1).trans r12, (hbm.cell (p := ⟨b1, off1 + k * 4 + 3, none⟩) hl1).trans r13, (hbm.cell (p := ⟨b2, off2 + k * 4, none⟩) hl2).trans r20, (hbm.cell (p := ⟨b2, off2 + k * 4 + 1, none⟩) hl2).trans r21, (hbm.cell (p := ⟨b2, off2 + k * 4 + 2, none⟩) hl2).trans r22, (hbm.cell (p := ⟨b2, off2 + k * 4 + 3, none⟩) hl2).trans r23⟩) ((go_at_call 60; refine (eqv _ _ _ _ _).mono ?_; rintro e w2 ⟨rfl, hbm⟩))
   all_goals
    go_wp2
    go_roundw
    case rel => exact ⟨k + 1, by omega, by go_num, (HB.out.drew).trans (hbm.mono HB.out.size)⟩
    case measure => simp [intOf]; omega
  ·have hd : ¬ (k : Int) < (xs.length : Int) := by omega
   go_wp2
   go_ret
   exact ⟨rfl, HB.out⟩

end Go.Proofs.Ytjeicgibddfifaa

namespace Go.Proofs.Ytjeicgibddfifaa
open Go.RowKit
open KM
attribute [local go_sem ↓] Go.wp_at_zero Go.wp_at_succ

structure Bb where
 vs : List Vr
 ps : List Ta
 qs : List Ta
 cs : Int
 nx : Int
 va : Option Addr
 vc : Nat
 pa : Option Addr
 pc : Nat
 qa : Option Addr
 qc : Nat
structure BRows (w : World) (b : Bb) : Prop where
 v : GRow encV w b.va b.vs
 p : TRows w b.pa b.ps
 q : TRows w b.qa b.qs
theorem BRows.below {w w' : World} {b : Bb} (h : BRows w b) (hb : Below w.heap.size w w') : BRows w' b := ⟨h.v.below hb, h.p.below hb, h.q.below hb⟩
structure BArg (w : World) (b : Bb) : Prop where
 vl : b.vs.length ≤ maxLen
 vf : ∀ x ∈ b.vs, x.1.size ≤ maxLen ∧ x.2.1.size ≤ maxLen
 v : GRow encV w b.va b.vs
 p : LArg w b.pa b.ps
 q : LArg w b.qa b.qs
theorem BArg.below {w w' : World} {b : Bb} (h : BArg w b) (hb : Below w.heap.size w w') : BArg w' b := ⟨h.vl, h.vf, h.v.below hb, h.p.below hb, h.q.below hb⟩
structure BFit (b : Bb) : Prop where
 vl : b.vs.length ≤ 1048576
 vf : VFit b.vs
 p : LFit (txs b.ps)
 q : LFit (txs b.qs)
theorem BFit.pl {b : Bb} (h : BFit b) : b.ps.length ≤ 1048576 := by have := h.p.1; rwa [txs_len] at this
theorem BFit.ql {b : Bb} (h : BFit b) : b.qs.length ≤ 1048576 := by have := h.q.1; rwa [txs_len] at this
structure BSame (b c : Bb) : Prop where
 v : c.vs = b.vs
 p : txs c.ps = txs b.ps
 q : txs c.qs = txs b.qs
 cs : c.cs = b.cs
 nx : c.nx = b.nx
theorem BSame.pl {b c : Bb} (h : BSame b c) : c.ps.length = b.ps.length := by rw [← txs_len, h.p, txs_len]
theorem BSame.ql {b c : Bb} (h : BSame b c) : c.qs.length = b.qs.length := by rw [← txs_len, h.q, txs_len]
theorem BSame.vl {b c : Bb} (h : BSame b c) : c.vs.length = b.vs.length := by rw [h.v]
theorem BSame.trans {b c d : Bb} (h : BSame b c) (k : BSame c d) : BSame b d := ⟨k.v.trans h.v, k.p.trans h.p, k.q.trans h.q, k.cs.trans h.cs, k.nx.trans h.nx⟩
theorem BSame.symm {b c : Bb} (h : BSame b c) : BSame c b := ⟨h.v.symm, h.p.symm, h.q.symm, h.cs.symm, h.nx.symm⟩

set_option maxRecDepth 100000 in
set_option maxHeartbeats 2000000 in
theorem eqB0 (b c : Bb) (hs : BSame b c) (hf : BFit b) (w : World) (hp : BRows w b) (hq : BRows w c) :
  Calls Try.prog 19 #[.agg #[.slice b.va b.vs.length b.vc, .slice b.pa b.ps.length b.pc, .slice b.qa b.qs.length b.qc, .int .i64 b.cs, .int .i64 b.nx], .agg #[.slice c.va b.vs.length c.vc, .slice c.pa b.ps.length c.pc, .slice c.qa b.qs.length c.qc, .int .i64 b.cs, .int .i64 b.nx]] w fun e w' => e = .returned (.bool true) ∧ Below w.heap.size w w' := by
 have HP : Hid (BRows w b) := hp
 have HQ : Hid (BRows w c) := hq
 have HS : Hid (BSame b c) := hs
 have HF : Hid (BFit b) := hf
 clear hp hq hs hf
 have n3 := ne_self_int b.cs
 have n4 := ne_self_int b.nx
 have BA0 : Hid (Bx ((w.alloc (.cells #[.slice b.va b.vs.length b.vc, .slice b.pa b.ps.length b.pc, .slice b.qa b.qs.length b.qc, .int .i64 b.cs, .int .i64 b.nx] 25)).alloc (.cells #[.slice c.va b.vs.length c.vc, .slice c.pa b.ps.length c.pc, .slice c.qa b.qs.length c.qc, .int .i64 b.cs, .int .i64 b.nx] 25)) w.heap.size [.slice b.va b.vs.length b.vc, .slice b.pa b.ps.length b.pc, .slice b.qa b.qs.length b.qc, .int .i64 b.cs, .int .i64 b.nx]) := (Bx.new w [.slice b.va b.vs.length b.vc, .slice b.pa b.ps.length b.pc, .slice b.qa b.qs.length b.qc, .int .i64 b.cs, .int .i64 b.nx] 25).alloc _
 have BB0 : Hid (Bx ((w.alloc (.cells #[.slice b.va b.vs.length b.vc, .slice b.pa b.ps.length b.pc, .slice b.qa b.qs.length b.qc, .int .i64 b.cs, .int .i64 b.nx] 25)).alloc (.cells #[.slice c.va b.vs.length c.vc, .slice c.pa b.ps.length c.pc, .slice c.qa b.qs.length c.qc, .int .i64 b.cs, .int .i64 b.nx] 25)) (w.heap.size + 1) [.slice c.va b.vs.length c.vc, .slice c.pa b.ps.length c.pc, .slice c.qa b.qs.length c.qc, .int .i64 b.cs, .int .i64 b.nx]) := by
  have h := Bx.new (w.alloc (.cells #[.slice b.va b.vs.length b.vc, .slice b.pa b.ps.length b.pc, .slice b.qa b.qs.length b.qc, .int .i64 b.cs, .int .i64 b.nx] 25)) [.slice c.va b.vs.length c.vc, .slice c.pa b.ps.length c.pc, .slice c.qa b.qs.length c.qc, .int .i64 b.cs, .int .i64 b.nx] 25
  rw [show (w.alloc (.cells #[.slice b.va b.vs.length b.vc, .slice b.pa b.ps.length b.pc, .slice b.qa b.qs.length b.qc, .int .i64 b.cs, .int .i64 b.nx] 25)).heap.size = w.heap.size + 1 by simp] at h
  exact h
 have HB0 : Hid (Below w.heap.size w ((w.alloc (.cells #[.slice b.va b.vs.length b.vc, .slice b.pa b.ps.length b.pc, .slice b.qa b.qs.length b.qc, .int .i64 b.cs, .int .i64 b.nx] 25)).alloc (.cells #[.slice c.va b.vs.length c.vc, .slice c.pa b.ps.length c.pc, .slice c.qa b.qs.length c.qc, .int .i64 b.cs, .int .i64 b.nx] 25))) := ((belowRefl w).alloc (Nat.le_refl _) _).alloc (by simp) _
 have CV : Hid (∀ W : World, Below w.heap.size w W → Calls Try.prog 36 #[.slice b.va b.vs.length b.vc, .slice c.va b.vs.length c.vc] W fun e w' => e = .returned (.bool true) ∧ Below W.heap.size W w') := fun W h => eqSV b.va c.va b.vc c.vc b.vs (Nat.le_trans HF.out.vl (by omega)) W (HP.out.v.below h) (by have k := HQ.out.v.below h; rw [HS.out.v] at k; exact k)
 have CP : Hid (∀ W : World, Below w.heap.size w W → Calls Try.prog 20 #[.slice b.pa b.ps.length b.pc, .slice c.pa b.ps.length c.pc] W fun e w' => e = .returned (.bool true) ∧ Below W.heap.size W w') := fun W h => eqL b.ps c.ps b.pa c.pa b.pc c.pc b.ps.length rfl HS.out.pl.symm (Nat.le_trans HF.out.pl (by omega)) HS.out.p.symm HF.out.p W (HP.out.p.below h) (HQ.out.p.below h)
 have CQ : Hid (∀ W : World, Below w.heap.size w W → Calls Try.prog 20 #[.slice b.qa b.qs.length b.qc, .slice c.qa b.qs.length c.qc] W fun e w' => e = .returned (.bool true) ∧ Below W.heap.size W w') := fun W h => eqL b.qs c.qs b.qa c.qa b.qc c.qc b.qs.length rfl HS.out.ql.symm (Nat.le_trans HF.out.ql (by omega)) HS.out.q.symm HF.out.q W (HP.out.q.below h) (HQ.out.q.below h)
 clear HP HQ HS HF
 go_enter Try.func19, Try.ntmps19
 go_wp2_with fail
 refine (CV.out _ HB0.out).mono ?_
 rintro e w1 ⟨rfl, hb1⟩
 have BA1 : Hid (Bx w1 w.heap.size [.slice b.va b.vs.length b.vc, .slice b.pa b.ps.length b.pc, .slice b.qa b.qs.length b.qc, .int .i64 b.cs, .int .i64 b.nx]) := BA0.out.below hb1
 have BB1 : Hid (Bx w1 (w.heap.size + 1) [.slice c.va b.vs.length c.vc, .slice c.pa b.ps.length c.pc, .slice c.qa b.qs.length c.qc, .int .i64 b.cs, .int .i64 b.nx]) := BB0.out.below hb1
 have HB1 : Hid (Below w.heap.size w w1) := HB0.out.trans (hb1.mono HB0.out.size)
 clear hb1 BA0 BB0 HB0
 have x1 := BA1.out.c1
 have y1 := BB1.out.c1
 go_wp2_with fail
 refine (CP.out _ HB1.out).mono ?_
 rintro e w2 ⟨rfl, hb2⟩
 have BA2 : Hid (Bx w2 w.heap.size [.slice b.va b.vs.length b.vc, .slice b.pa b.ps.length b.pc, .slice b.qa b.qs.length b.qc, .int .i64 b.cs, .int .i64 b.nx]) := BA1.out.below hb2
 have BB2 : Hid (Bx w2 (w.heap.size + 1) [.slice c.va b.vs.length c.vc, .slice c.pa b.ps.length c.pc, .slice c.qa b.qs.length c.qc, .int .i64 b.cs, .int .i64 b.nx]) := BB1.out.below hb2
 have HB2 : Hid (Below w.heap.size w w2) := HB1.out.trans (hb2.mono HB1.out.size)
 clear hb2 BA1 BB1 HB1 x1 y1
 have x2 := BA2.out.c2
 have y2 := BB2.out.c2
 go_wp2_with fail
 refine (CQ.out _ HB2.out).mono ?_
 rintro e w3 ⟨rfl, hb3⟩
 have BA3 : Hid (Bx w3 w.heap.size [.slice b.va b.vs.length b.vc, .slice b.pa b.ps.length b.pc, .slice b.qa b.qs.length b.qc, .int .i64 b.cs, .int .i64 b.nx]) := BA2.out.below hb3
 have BB3 : Hid (Bx w3 (w.heap.size + 1) [.slice c.va b.vs.length c.vc, .slice c.pa b.ps.length c.pc, .slice c.qa b.qs.length c.qc, .int .i64 b.cs, .int .i64 b.nx]) := BB2.out.below hb3
 have HB3 : Hid (Below w.heap.size w w3) := HB2.out.trans (hb3.mono HB2.out.size)
 clear hb3 BA2 BB2 HB2 x2 y2
 have x3 := BA3.out.c3
 have y3 := BB3.out.c3
 have x4 := BA3.out.c4
 have y4 := BB3.out.c4
 go_wp2
 go_ret
 exact ⟨rfl, HB3.out⟩

end Go.Proofs.Ytjeicgibddfifaa

namespace Go.Proofs.Ytjeicgibddfifaa
open Go.RowKit
open KM
attribute [local go_sem ↓] Go.wp_at_zero Go.wp_at_succ

def CodeOk (w : World) (a : Option Addr) (len g : Nat) : Prop :=
 0 < len → ∃ b off, a = some ⟨b, off, none⟩ ∧ b < w.heap.size ∧ b ≠ g ∧ ∀ i, i < len → ∃ z : Int, 0 ≤ z ∧ z ≤ 255 ∧ w.cell? ⟨b, off + i, none⟩ = some (.int .u8 z)

structure Cur (w : World) (g : Nat) (a : Option Addr) (len cap : Nat) (i h : Int) : Prop where
 c0 : w.cell? ⟨g, 0, none⟩ = some (.slice a len cap)
 c1 : w.cell? ⟨g, 1, none⟩ = some (.int .i64 i)
 c2 : w.cell? ⟨g, 2, none⟩ = some (.int .i64 h)
 free : ∀ j, w.frozen? ⟨g, j, none⟩ = false
 i0 : 0 ≤ i
 i1 : i ≤ (len : Int)

theorem CodeOk.grown {w w' : World} {a : Option Addr} {len g : Nat} (h : CodeOk w a len g) (hg : w.grownBy w' (some g)) : CodeOk w' a len g := fun hl => by
 obtain ⟨b, off, ha, hb, hne, hz⟩ := h hl
 refine ⟨b, off, ha, Nat.lt_of_lt_of_le hb hg.size, hne, fun i hi => ?_⟩
 obtain ⟨z, h0, h1, hc⟩ := hz i hi
 exact ⟨z, h0, h1, (World.cell?_of_block (w := w) (a := ⟨b, off + i, none⟩) (hg.block b hb (fun e => hne (Option.some.inj e)))).trans hc⟩

def CurOk (w : World) (g : Nat) (a : Option Addr) (len cap : Nat) : Prop := ∃ i h, Cur w g a len cap i h ∧ CodeOk w a len g

theorem CurOk.below {w w' : World} {g len cap : Nat} {a : Option Addr} (h : CurOk w g a len cap) (hb : Below w.heap.size w w') (hg : g < w.heap.size) : CurOk w' g a len cap := by
 obtain ⟨i, x, c, k⟩ := h
 refine ⟨i, x, ⟨(hb.cell (p := ⟨g, 0, none⟩) hg).trans c.c0, (hb.cell (p := ⟨g, 1, none⟩) hg).trans c.c1, (hb.cell (p := ⟨g, 2, none⟩) hg).trans c.c2, fun j => (hb.frozen (p := ⟨g, j, none⟩) hg).trans (c.free j), c.i0, c.i1⟩, fun hl => ?_⟩
 obtain ⟨b, off, ha, hb1, hne, hz⟩ := k hl
 refine ⟨b, off, ha, Nat.lt_of_lt_of_le hb1 hb.size, hne, fun j hj => ?_⟩
 obtain ⟨z, h0, h1, hc⟩ := hz j hj
 exact ⟨z, h0, h1, (hb.cell (p := ⟨b, off + j, none⟩) hb1).trans hc⟩

def CodeRow (w : World) (a : Option Addr) (len : Nat) : Prop :=
 0 < len → ∃ b off, a = some ⟨b, off, none⟩ ∧ b < w.heap.size ∧ ∀ i, i < len → ∃ z : Int, 0 ≤ z ∧ z ≤ 255 ∧ w.cell? ⟨b, off + i, none⟩ = some (.int .u8 z)

theorem CodeRow.below {w w' : World} {a : Option Addr} {len : Nat} (h : CodeRow w a len) (hb : Below w.heap.size w w') : CodeRow w' a len := fun hl => by
 obtain ⟨b, off, ha, hb1, hz⟩ := h hl
 refine ⟨b, off, ha, Nat.lt_of_lt_of_le hb1 hb.size, fun j hj => ?_⟩
 obtain ⟨z, h0, h1, hc⟩ := hz j hj
 exact ⟨z, h0, h1, (hb.cell (p := ⟨b, off + j, none⟩) hb1).trans hc⟩

structure CurI (w : World) (g : Nat) (a : Option Addr) (len cap : Nat) : Prop where
 c : CurOk w g a len cap
 lt : g < w.heap.size
 sm : len ≤ 1048576
theorem CurI.below {w w' : World} {g len cap : Nat} {a : Option Addr} (h : CurI w g a len cap) (hb : Below w.heap.size w w') : CurI w' g a len cap :=
 ⟨h.c.below hb h.lt, Nat.lt_of_lt_of_le h.lt hb.size, h.sm⟩
theorem CurI.drew {w : World} {g len cap : Nat} {a : Option Addr} (h : CurI w g a len cap) : CurI w.drew g a len cap := h.below ((belowRefl w).drew)
theorem CurI.alloc {w : World} {g len cap : Nat} {a : Option Addr} (h : CurI w g a len cap) (o : Obj) : CurI (w.alloc o) g a len cap := h.below ((belowRefl w).alloc (Nat.le_refl _) o)

def OldC (w0 : World) (g : Nat) (a : Option Addr) (len : Nat) : Prop := g < w0.heap.size ∧ ∀ b off, a = some ⟨b, off, none⟩ → 0 < len → b < w0.heap.size
theorem CurI.old {w : World} {g len cap : Nat} {a : Option Addr} (h : CurI w g a len cap) : OldC w g a len :=
 ⟨h.lt, fun b off e hl => by
  obtain ⟨i, x, c, k⟩ := h.c
  obtain ⟨b', off', ha, hb, _⟩ := k hl
  rw [e] at ha
  cases ha
  exact hb⟩
theorem CurOk.belowB {w w' : World} {g len cap B : Nat} {a : Option Addr} (h : CurOk w g a len cap) (hb : Below B w w') (hg : g < B) (hcode : ∀ b off, a = some ⟨b, off, none⟩ → 0 < len → b < B) : CurOk w' g a len cap := by
 obtain ⟨i, x, c, k⟩ := h
 refine ⟨i, x, ⟨(hb.cell (p := ⟨g, 0, none⟩) hg).trans c.c0, (hb.cell (p := ⟨g, 1, none⟩) hg).trans c.c1, (hb.cell (p := ⟨g, 2, none⟩) hg).trans c.c2, fun j => (hb.frozen (p := ⟨g, j, none⟩) hg).trans (c.free j), c.i0, c.i1⟩, fun hl => ?_⟩
 obtain ⟨b, off, ha, hb1, hne, hz⟩ := k hl
 refine ⟨b, off, ha, Nat.lt_of_lt_of_le hb1 hb.size, hne, fun j hj => ?_⟩
 obtain ⟨z, h0, h1, hc⟩ := hz j hj
 exact ⟨z, h0, h1, (hb.cell (p := ⟨b, off + j, none⟩) (hcode b off ha hl)).trans hc⟩
theorem grown_belowB {w w2 w3 : World} {g B : Nat} (h : w.grownBy w2 (some g)) (hb : Below B w2 w3) (hB : w.heap.size ≤ B) : w.grownBy w3 (some g) :=
 ⟨hb.os.trans h.os, hb.tape.trans h.tape, hb.output.trans h.output, Nat.le_trans h.size hb.size, fun j hj hne => (hb.block j (by omega)).trans (h.block j hj hne)⟩

structure Dn (w0 w : World) (g : Nat) (a : Option Addr) (len cap : Nat) : Prop where
 c : CurI w g a len cap
 gr : w0.grownBy w (some g)
 old : OldC w0 g a len
section
variable {w0 w w' : World} {g len cap : Nat} {a : Option Addr}
theorem Dn.belowB (h : Dn w0 w g a len cap) (hb : Below w0.heap.size w w') : Dn w0 w' g a len cap :=
 ⟨⟨h.c.c.belowB hb h.old.1 h.old.2, Nat.lt_of_lt_of_le h.c.lt hb.size, h.c.sm⟩, grown_belowB h.gr hb (Nat.le_refl _), h.old⟩
theorem Dn.below (h : Dn w0 w g a len cap) (hb : Below w.heap.size w w') : Dn w0 w' g a len cap := h.belowB (hb.mono h.gr.size)
theorem Dn.alloc (h : Dn w0 w g a len cap) (o : Obj) : Dn w0 (w.alloc o) g a len cap := h.below ((belowRefl w).alloc (Nat.le_refl _) o)
theorem Dn.drew (h : Dn w0 w g a len cap) : Dn w0 w.drew g a len cap := h.below ((belowRefl w).drew)
theorem Dn.size (h : Dn w0 w g a len cap) : w0.heap.size ≤ w.heap.size := h.gr.size
theorem Dn.out {B : Nat} (h : Dn w0 w g a len cap) (hB : Below B w' w0) (hg : B ≤ g) (hs : B ≤ w0.heap.size) : Below B w' w :=
 hB.grown h.gr hs (fun j hj => by cases hj; exact hg)
end

section
variable {w w' : World} {b : Nat} {cs : List Value}
end

end Go.Proofs.Ytjeicgibddfifaa

namespace Go.Proofs.Ytjeicgibddfifaa
open Go.RowKit
open KM
attribute [local go_sem ↓] Go.wp_at_zero Go.wp_at_succ

end Go.Proofs.Ytjeicgibddfifaa

namespace Go.Proofs.Ytjeicgibddfifaa
open Go.RowKit
open KM
attribute [local go_sem ↓] Go.wp_at_zero Go.wp_at_succ

end Go.Proofs.Ytjeicgibddfifaa

namespace Go.Proofs.Ytjeicgibddfifaa
open Go.RowKit
open KM
attribute [local go_sem ↓] Go.wp_at_zero Go.wp_at_succ

end Go.Proofs.Ytjeicgibddfifaa

namespace Go.Proofs.Ytjeicgibddfifaa
open Go.RowKit
open KM
attribute [local go_sem ↓] Go.wp_at_zero Go.wp_at_succ

end Go.Proofs.Ytjeicgibddfifaa

namespace Go.Proofs.Ytjeicgibddfifaa
open Go.RowKit
open KM
attribute [local go_sem ↓] Go.wp_at_zero Go.wp_at_succ

end Go.Proofs.Ytjeicgibddfifaa

namespace Go.Proofs.Ytjeicgibddfifaa
open Go.RowKit
open KM
attribute [local go_sem ↓] Go.wp_at_zero Go.wp_at_succ

end Go.Proofs.Ytjeicgibddfifaa

namespace Go.Proofs.Ytjeicgibddfifaa
open Go.RowKit
open KM
attribute [local go_sem ↓] Go.wp_at_zero Go.wp_at_succ
end Go.Proofs.Ytjeicgibddfifaa

namespace Go.Proofs.Ytjeicgibddfifaa
open Go.RowKit
open KM
attribute [local go_sem ↓] Go.wp_at_zero Go.wp_at_succ

end Go.Proofs.Ytjeicgibddfifaa

namespace Go.Proofs.Ytjeicgibddfifaa
open Go.RowKit
open KM
attribute [local go_sem ↓] Go.wp_at_zero Go.wp_at_succ

structure Zn (lo hi : Nat) (w w' : World) : Prop where
 os : w'.os = w.os
 tape : w'.tape = w.tape
 output : w'.output = w.output
 size : w.heap.size ≤ w'.heap.size
 block : ∀ j, j < w.heap.size → (j < lo ∨ hi ≤ j) → w'.heap[j]? = w.heap[j]?
theorem Zn.trans {lo hi : Nat} {a b c : World} (h : Zn lo hi a b) (k : Zn lo hi b c) : Zn lo hi a c :=
 ⟨k.os.trans h.os, k.tape.trans h.tape, k.output.trans h.output, Nat.le_trans h.size k.size, fun j hj hn => (k.block j (Nat.lt_of_lt_of_le hj h.size) hn).trans (h.block j hj hn)⟩
theorem Zn.below {lo hi base : Nat} {w w' : World} (h : Zn lo hi w w') (hb : base ≤ lo) (hs : base ≤ w.heap.size) : Below base w w' :=
 ⟨h.os, h.tape, h.output, h.size, fun j hj => h.block j (by omega) (Or.inl (by omega))⟩
end Go.Proofs.Ytjeicgibddfifaa

namespace Go.Proofs.Ytjeicgibddfifaa
open Go.RowKit
open KM
attribute [local go_sem ↓] Go.wp_at_zero Go.wp_at_succ

def Av (v : Value) (p q : Nat) : Prop := ∀ g, v.ownBlock = some g → g < p ∨ q ≤ g
def Zs (w : World) (v : Value) : Nat → Nat → List Ta → Prop
 | lo, hi, [] => lo ≤ hi
 | lo, hi, y :: ys => ∃ p q, lo ≤ p ∧ p ≤ q ∧ TLie w p q y.t y.ra y.rc y.wa y.wc ∧ Av v p q ∧ Zs w v q hi ys
theorem Zs.below {w w' : World} {v : Value} (hb : Below w.heap.size w w') : ∀ {ys : List Ta} {lo hi : Nat}, Zs w v lo hi ys → Zs w' v lo hi ys
 | [], _, _, h => h
 | _ :: _, _, _, ⟨p, q, h1, h2, h3, h4, h5⟩ => ⟨p, q, h1, h2, h3.below hb, h4, h5.below hb⟩
theorem Zs.mono {w : World} {v : Value} : ∀ {ys : List Ta} {lo hi lo' hi' : Nat}, Zs w v lo hi ys → lo' ≤ lo → hi ≤ hi' → Zs w v lo' hi' ys
 | [], _, _, _, _, h, h1, h2 => Nat.le_trans h1 (Nat.le_trans h h2)
 | _ :: _, _, _, _, _, ⟨p, q, h1, h2, h3, h4, h5⟩, k1, k2 => ⟨p, q, Nat.le_trans k1 h1, h2, h3, h4, h5.mono (Nat.le_refl _) k2⟩
theorem Zs.each {w : World} {v : Value} : ∀ {ys : List Ta} {lo hi : Nat}, Zs w v lo hi ys → ∀ y ∈ ys, TRow w y.t y.ra y.wa
 | [], _, _, _, _, hy => by cases hy
 | _ :: _, _, _, ⟨_, _, _, _, h3, _, h5⟩, y, hy => by
  rcases List.mem_cons.1 hy with rfl | hy
  ·exact h3.row
  ·exact h5.each y hy
structure LLie (w : World) (lo hi : Nat) (v : Value) (ys : List Ta) : Prop where
 own : Lies encT 51 w lo hi v ys
 zs : Zs w v lo hi ys
theorem LLie.below {w w' : World} {lo hi : Nat} {v : Value} {ys : List Ta} (h : LLie w lo hi v ys) (hb : Below w.heap.size w w') : LLie w' lo hi v ys := ⟨h.own.below hb, h.zs.below hb⟩
theorem LLie.mono {w : World} {lo hi lo' hi' : Nat} {v : Value} {ys : List Ta} (h : LLie w lo hi v ys) (h1 : lo' ≤ lo) (h2 : hi ≤ hi') : LLie w lo' hi' v ys := ⟨h.own.mono h1 h2, h.zs.mono h1 h2⟩
end Go.Proofs.Ytjeicgibddfifaa

namespace Go.Proofs.Ytjeicgibddfifaa
open Go.RowKit
open KM
attribute [local go_sem ↓] Go.wp_at_zero Go.wp_at_succ

structure BLie (w : World) (lo hi : Nat) (c : Bb) : Prop where
 ex : ∃ m1 m2, lo ≤ m1 ∧ m1 ≤ m2 ∧ m2 ≤ hi ∧ Lies encV 84 w lo m1 (.slice c.va c.vs.length c.vc) c.vs ∧ LLie w m1 m2 (.slice c.pa c.ps.length c.pc) c.ps ∧ LLie w m2 hi (.slice c.qa c.qs.length c.qc) c.qs
theorem BLie.below {w w' : World} {lo hi : Nat} {c : Bb} (h : BLie w lo hi c) (hb : Below w.heap.size w w') : BLie w' lo hi c := by
 obtain ⟨m1, m2, a, b, d, h1, h2, h3⟩ := h.ex
 exact ⟨m1, m2, a, b, d, h1.below hb, h2.below hb, h3.below hb⟩
theorem BLie.mono {w : World} {lo hi lo' hi' : Nat} {c : Bb} (h : BLie w lo hi c) (k : lo' ≤ lo) (k' : hi ≤ hi') : BLie w lo' hi' c := by
 obtain ⟨m1, m2, k1, k2, k3, h1, h2, h3⟩ := h.ex
 exact ⟨m1, m2, by omega, k2, by omega, h1.mono k (Nat.le_refl _), h2, h3.mono (Nat.le_refl _) k'⟩
end Go.Proofs.Ytjeicgibddfifaa
